/-
  Ent4, Ent5, Ent6, Ent7 in one text.
-/
import Derived.Deep.RegionHeld3
import Derived.Test.YtlemdjgpkmjihaaGreatMemB
import Derived.Test.YtlemdjgpkmjihaaGreatEnt0
namespace Go.Proofs.YtlemdjgpkmjihaaGreat
open Go.RowKit Go.ChangeMaps Go.MapKept
set_option linter.unusedVariables false
set_option linter.unusedSimpArgs false

theorem blk_setCells {B : Nat} {t : TypeId} : ∀ (vs : List Value) (o : Nat) (w : World) (cs : Array Value), Blk w B cs t → ∃ cs', Blk (w.setCells B o vs) B cs' t ∧ cs'.size = cs.size ∧ w.grownBy (w.setCells B o vs) (some B)
  | [], o, w, cs, h => ⟨cs, h, rfl, World.grownBy.refl _ _⟩
  | v :: vs, o, w, cs, h => by
    obtain ⟨cs', h1, h2, h3⟩ := blk_setCells vs (o + 1) (w.setCell ⟨B, o, none⟩ v) _ (Blk.set h v)
    exact ⟨cs', h1, by rw [h2]; simp, grown_trans' (set_grown w B o v) h3⟩

theorem size_setCellsE (b : Nat) : ∀ (vs : List Value) (o : Nat) (w : World), (w.setCells b o vs).heap.size = w.heap.size
  | [], _, _ => rfl
  | v :: vs, o, w => (size_setCellsE b vs (o + 1) _).trans (by simp [World.setCell])

/-- A row of states at work is cleared: what is left of it is a row of none. -/
theorem clear81 {w : World} {base n : Nat} {v : Value} {cs : List Value} (h : w.ownsRow base 115 81 v n cs) :
    ∃ w' a c, v = .slice a n c ∧ (∀ ty, (Builtin.clear_ #[106] ty #[v]).run Tryz.prog w = .ok (.tuple #[]) w') ∧ w'.ownsRow base 115 81 (.slice a 0 c) 0 [] ∧ w.grownBy w' v.ownBlock ∧ w'.heap.size = w.heap.size := by
  have hu := Tryz.underlying106
  by_cases hn : n = 0
  · subst hn
    rcases h.2 with ⟨rfl, -⟩ | ⟨g, cap, cur, rfl, h1, h2, h3, h4, h5, h6⟩
    · exact ⟨w, none, 0, rfl, fun ty => by simp [Builtin.clear_, run_underlying hu, Result.andThen], World.ownsRow_nil _ _ _ _, World.grownBy.refl _ _, rfl⟩
    · exact ⟨w, _, cap, rfl, fun ty => by simp [Builtin.clear_, run_underlying hu, Result.andThen], ⟨by simp, .inr ⟨g, cap, cur, rfl, h1, h2, h3, h4, h5, by simp⟩⟩, World.grownBy.refl _ _, rfl⟩
  · rcases h.2 with ⟨-, h0⟩ | ⟨g, cap, cur, rfl, h1, h2, h3, h4, h5, h6⟩
    · exact absurd h0 hn
    · have hz9 : (Value.agg (mtC (List.replicate 80 false) (.slice none 0 0)).toArray).cells.size = 81 := by simp [Value.cells, mtC]
      have ho9 : ∀ u ∈ (Value.agg (mtC (List.replicate 80 false) (.slice none 0 0)).toArray).cells, u.oneCell' = true := by
        intro u hu'
        simp only [Value.cells, List.mem_toArray] at hu'
        exact mtC_one _ _ _ _ u hu'
      obtain ⟨L, hL⟩ : ∃ L, L = (Builtin.zeroCells (Value.agg (mtC (List.replicate 80 false) (.slice none 0 0)).toArray).cells n).toList := ⟨_, rfl⟩
      have hlen : L.length = n * 81 := by
        rw [hL]
        have h9 : (Value.agg (mtC (List.replicate 80 false) (.slice none 0 0)).toArray).cells.size = 81 := hz9
        simp only [Builtin.zeroCells, Array.length_toList, Array.size_map, Array.size_range, h9]
      have hone : ∀ u ∈ L, u.oneCell' = true := by
        rw [hL]
        intro u hu'
        simp only [Builtin.zeroCells, Array.toList_map, List.mem_map] at hu'
        obtain ⟨i, -, rfl⟩ := hu'
        refine ho9 _ ?_
        have h9 : i % (Value.agg (mtC (List.replicate 80 false) (.slice none 0 0)).toArray).cells.size < (Value.agg (mtC (List.replicate 80 false) (.slice none 0 0)).toArray).cells.size := Nat.mod_lt _ (by rw [hz9]; omega)
        rw [getElem!_pos (Value.agg (mtC (List.replicate 80 false) (.slice none 0 0)).toArray).cells (i % (Value.agg (mtC (List.replicate 80 false) (.slice none 0 0)).toArray).cells.size) h9]
        exact Array.getElem_mem _
      have hb : Blk w g cur 115 := h2
      obtain ⟨cs', k1, k2, k3⟩ := blk_setCells L 0 w cur hb
      have hc : ∀ j, j < L.length → (w.cell? ⟨g, 0 + 0 + j, none⟩).isSome = true := by
        intro j hj
        have h7 : n * 81 ≤ cap * 81 := Nat.mul_le_mul_right _ h3
        have h8 : 0 + 0 + j < cur.size := by omega
        rw [hb.cell (0 + 0 + j), Array.getElem?_eq_getElem h8]
        rfl
      have hst := run_storeCells_cells (P := Tryz.prog) g 0 L 0 w hc (fun j hj => hb.frozen _) hone
      simp only [Nat.add_zero] at hst
      refine ⟨w.setCells g 0 L, _, cap, rfl, fun ty => ?_, ⟨by simp, .inr ⟨g, cap, cs', rfl, h1, k1, by omega, h4, by rw [k2, h5], by simp⟩⟩, k3, size_setCellsE _ _ _ _⟩
      obtain ⟨m, rfl⟩ : ∃ m, n = m + 1 := ⟨n - 1, by omega⟩
      unfold Builtin.clear_
      simp only [run_underlying hu, zero81, Sem.run_bind, Sem.run_pure, Result.andThen_ok, ← hL, hst, List.getElem?_toArray, List.getElem?_cons_zero]
theorem OwnP.clearA {w : World} {b : Nat} {B : List Es} (h : OwnP w b B) :
    ∃ w', (∀ ty, (Builtin.clear_ #[105] ty #[.map (some b)]).run Tryz.prog w = .ok (.tuple #[]) w') ∧ OwnP w' b [] ∧ w.grownBy w' (some b) ∧ w'.heap.size = w.heap.size := by
  obtain ⟨es, clock, hb, hst, hp, hk⟩ := h
  refine ⟨setBlock w b (.map #[] clock), fun ty => ?_, ⟨_, _, setBlockS_at hb, ⟨by simp, by simp, by simp⟩, by simp, fun e he => by simp at he⟩, setBlockS_grown _ _ _, by simp [setBlock]⟩
  simp [Builtin.clear_, run_underlying undS, MapKept.run_getObj_map hb, MapKept.run_setObj_map _ hb, Result.andThen, setBlock]

theorem OwnP.not_row {w : World} {b base n : Nat} {e : TypeId} {size : Nat} {E : List Es} {v : Value} {xs : List Value} (h : OwnP w b E) (hr : w.ownsRow base e size v n xs) : some b ≠ v.ownBlock := by
  intro e
  rcases hr.2 with ⟨e0, _⟩ | ⟨g, cap, cur, e0, _, hh, _⟩
  · rw [e0] at e; simp [Value.ownBlock] at e
  · rw [e0] at e
    simp [Value.ownBlock] at e
    subst e
    exact OwnP.no h _ _ hh

set_option maxHeartbeats 1600000 in
theorem forget_any (W0 w : World) (B b q : Nat) (z : Int) (pv v : Value) (ms : List Mt) (E : List Es) (h : Mem W0 w B b q z pv v ms E) :
    Calls Tryz.prog 91 #[.pointer (some ⟨B, 0, none⟩)] w fun r w' => r = .returned (.tuple #[]) ∧ ∃ v', Mem W0 w' B b q z pv v' [] [] ∧ ∀ k cs' t, Blk w k cs' t → t ≠ 115 → k ≠ B → Blk w' k cs' t := by
  have mB : (108 : TypeId) ≠ 115 := by decide
  have iB : (34 : TypeId) ≠ 115 := by decide
  obtain ⟨w1, hr1, hm1, hg1, hz1⟩ := OwnP.clearA h.map
  have hbB : b ≠ B := OwnP.ne_blk h.map h.blk
  have hbq : b ≠ q := OwnP.ne_blk h.map h.step
  have k1 := h.blk.kept hg1 (by simpa using hbB.symm)
  have q1 := h.step.kept hg1 (by simpa using hbq.symm)
  have hlb := h.below.grown hg1 h.below.size (fun j hj => by cases hj; exact h.hb)
  obtain ⟨us, r1, -⟩ := h.rows
  have o1 : w1.ownsRow W0.heap.size 115 81 v ms.length (us.flatMap muE) := World.ownsRow.kept r1.1.2 hg1 (.inr (fun e => OwnP.not_row h.map r1.1.2 e.symm))
  obtain ⟨w2, a, c, hv, hr2, o2, hg2, hz2⟩ := clear81 o1
  have k2 := k1.kept hg2 (Blk.not_row k1 mB o1)
  have q2 := q1.kept hg2 (Blk.not_row q1 iB o1)
  have m2 := hm1.kept hg2 (OwnP.not_row hm1 o1)
  have hlb2 := hlb.grown hg2 hlb.size (fun j hj => (World.ownsRow.lt o1 j hj).1)
  have c1 := h.blk.cell 1
  have c2 := h.blk.cell 2
  have d1 := k1.cell 1
  have e1 := k2.cell 1
  have ef := k2.frozen 1
  have HF : Hid (∀ k cs' t, Blk w k cs' t → t ≠ 115 → k ≠ B → Blk w2 k cs' t) := hid (fun k cs' t hk ht hkB => by
    have b1 := hk.kept hg1 (by simpa using (OwnP.ne_blk h.map hk).symm)
    exact b1.kept hg2 (Blk.not_row b1 ht o1))
  subst hv
  simp only [List.getElem?_toArray, List.getElem?_cons_zero, List.getElem?_cons_succ] at c1 c2 d1 e1
  have HK2 := hid k2
  have HQ2 := hid q2
  have HM2 := hid m2
  have HL2 := hid hlb2
  have HO2 := hid o2
  have H := hid (And.intro h.hB (And.intro h.hq h.hb))
  have hqB : Hid (q ≠ B) := by
    have h1 := h.blk
    have h2 := h.step
    refine hid (fun e => ?_)
    rw [e] at h2
    unfold Blk at h1 h2
    rw [h1] at h2
    simp at h2
  clear h k1 q1 k2 q2 m2 hlb hlb2 o1 o2 r1 hm1 hg1 hg2
  go_enter Tryz.func91, Tryz.ntmps91
  go_wp2
  refine bodyPost_end (v := .tuple #[]) (by simp [results, Tryz.results91, go_sem]) rfl ⟨rfl, .slice a 0 c, ?_⟩
  have hgs := set_grown w2 B 1 (.slice a 0 c)
  have hBl : W0.heap.size ≤ B := H.out.1
  refine ⟨?_, fun k cs' t hk ht hkB => (HF.out k cs' t hk ht hkB).kept hgs (by simpa using hkB)⟩
  refine ⟨by simpa using HK2.out.set (i := 1) (.slice a 0 c), ⟨[], ⟨⟨rfl, ?_⟩, ?_⟩, rfl, ?_, ?_⟩, HM2.out.kept hgs (by simpa using hbB), HQ2.out.kept hgs (by simpa using hqB.out), hBl, H.out.2.1, H.out.2.2, HL2.out.grown hgs HL2.out.size (fun j hj => by cases hj; exact hBl)⟩
  · exact World.ownsRow.kept HO2.out hgs (.inr (fun e => Blk.not_row HK2.out mB HO2.out e.symm))
  · intro j hj
    have := (World.ownsRow.lt HO2.out j hj).2
    have := hgs.size
    omega
  · intro j u x hu
    simp at hu
  · intro j j' u u' _ hu
    simp at hu
end Go.Proofs.YtlemdjgpkmjihaaGreat

namespace Go.Proofs.YtlemdjgpkmjihaaGreat
open Go.RowKit
set_option linter.unusedVariables false
set_option linter.unusedSimpArgs false

theorem exec_lookS {ρ : Operand → Value} {o : Oper} {w : World} (x y : Operand) {m k r : Value} (ho : o.op = .lookup 105 x y true) (hx : ρ x = m) (hy : ρ y = k) (hr : (Instr.lookup 105 m k true).run Tryz.prog w = .ok r w) : (execOp ρ o).run Tryz.prog w = .ok (.value r) w := by
  unfold execOp
  simp only [ho, hx, hy, Sem.run_bind, Sem.run_pure, hr, Result.andThen_ok]

set_option maxHeartbeats 3200000 in
set_option maxRecDepth 20000 in
theorem enter_any (W0 w : World) (B b q : Nat) (z : Int) (pv v : Value) (ms : List Mt) (S : List Bool) (hS80 : S.length = 80) (h : Mem W0 w B b q z pv v ms (entsFrom 0 ms)) (j : Nat) (x : Mt) (hj : ms[j]? = some x) (hx : x.1.1 = S) :
    Calls Tryz.prog 66 #[.pointer (some ⟨B, 0, none⟩), .agg (boolsA S)] w fun r w' => r = .returned (.tuple #[.int .i64 (j : Int), .bool false]) ∧ Mem W0 w' B b q z pv v ms (entsFrom 0 ms) := by
  have he := entsFrom_at ms 0 j x hj
  rw [hx, Nat.zero_add] at he
  have HLK : Hid (∀ w', OwnP w' b (entsFrom 0 ms) → (Instr.lookup 105 (.map (some b)) (kvS S) true).run Tryz.prog w' = .ok (.tuple #[.int .i64 (j : Int), .bool true]) w') := hid (fun w' h' => OwnP.look h' he true)
  obtain ⟨W1, hW1⟩ : ∃ W1, W1 = w.alloc (.cells (boolsA S) 111) := ⟨_, rfl⟩
  have HM : Hid (Mem W0 W1.drew B b q z pv v ms (entsFrom 0 ms)) := by rw [hW1]; exact hid (h.later ((Below.refl w.heap.size w).alloc (Nat.le_refl _) _).drew)
  have HX : Hid (Blk W1.drew w.heap.size (boolsA S) 111) := by rw [hW1]; exact hid (Blk.new w _ _)
  clear h he hj hx
  generalize hXX : w.heap.size = X at *
  go_enter Tryz.func66, Tryz.ntmps66
  go_wp2_with fail
  rw [← hW1]
  clear hW1
  refine wp_region_held_drew (S := fun w' => w'.cell? ⟨B, 2, none⟩ = some (.map (some b)) ∧ Blk w' X (boolsA S) 111 ∧ OwnP w' b (entsFrom 0 ms)) (by kernel_rfl) (by exact ⟨by have := HM.out.blk.cell 2; simpa using this, HX.out, HM.out.map⟩) (fun hS => ?_)
  refine wpAnyH_take (i := 0) (v := (.pointer (some ⟨B, 0, none⟩))) rfl (by as_aux_lemma => kernel_rfl) (by as_aux_lemma => kernel_rfl) (by as_aux_lemma => kernel_rfl) (fun _ _ _ h => h) (Or.inl ⟨by kernel_rfl, ?_⟩) hS ?_
  · intro w hSw; (try dsimp only at hSw); go_simp
  (try simp only [Act.put, List.getElem_toArray, List.getElem_cons_zero, List.getElem_cons_succ, List.setIfInBounds_toArray, List.set_cons_zero, List.set_cons_succ])
  refine wpAnyH_take (i := 1) (v := (.pointer (some ⟨B, 0, none⟩))) rfl (by as_aux_lemma => kernel_rfl) (by as_aux_lemma => kernel_rfl) (by as_aux_lemma => kernel_rfl) (fun _ _ _ h => h) (Or.inl ⟨by kernel_rfl, ?_⟩) hS ?_
  · intro w hSw; (try dsimp only at hSw); go_simp
  (try simp only [Act.put, List.getElem_toArray, List.getElem_cons_zero, List.getElem_cons_succ, List.setIfInBounds_toArray, List.set_cons_zero, List.set_cons_succ])
  refine wpAnyH_take (i := 2) (v := (.pointer (some ⟨B, 2, none⟩))) rfl (by as_aux_lemma => kernel_rfl) (by as_aux_lemma => kernel_rfl) (by as_aux_lemma => kernel_rfl) (fun _ _ _ h => h) (Or.inl ⟨by kernel_rfl, ?_⟩) hS ?_
  · intro w hSw; (try dsimp only at hSw); go_simp
  (try simp only [Act.put, List.getElem_toArray, List.getElem_cons_zero, List.getElem_cons_succ, List.setIfInBounds_toArray, List.set_cons_zero, List.set_cons_succ])
  refine wpAnyH_take (i := 3) (v := (.map (some b))) rfl (by as_aux_lemma => kernel_rfl) (by as_aux_lemma => kernel_rfl) (by as_aux_lemma => kernel_rfl) (fun _ _ _ h => h) (Or.inl ⟨by kernel_rfl, ?_⟩) hS ?_
  · intro w hSw; (try dsimp only at hSw); have hc2 := hSw.1; go_simp
  (try simp only [Act.put, List.getElem_toArray, List.getElem_cons_zero, List.getElem_cons_succ, List.setIfInBounds_toArray, List.set_cons_zero, List.set_cons_succ])
  refine wpAnyH_take (i := 4) (v := (.agg (boolsA S))) rfl (by as_aux_lemma => kernel_rfl) (by as_aux_lemma => kernel_rfl) (by as_aux_lemma => kernel_rfl) (fun _ _ _ h => h) (Or.inl ⟨by kernel_rfl, ?_⟩) hS ?_
  · intro w hSw; (try dsimp only at hSw); exact exec_load_row 111 _ rfl X rfl 111 (boolsA S) _ hSw.2.1 under80 rfl (size80 (size_set80 hS80))
  (try simp only [Act.put, List.getElem_toArray, List.getElem_cons_zero, List.getElem_cons_succ, List.setIfInBounds_toArray, List.set_cons_zero, List.set_cons_succ])
  refine wpAnyH_take (i := 5) (v := (.tuple #[.int .i64 (j : Int), .bool true])) rfl (by as_aux_lemma => kernel_rfl) (by as_aux_lemma => kernel_rfl) (by as_aux_lemma => kernel_rfl) (fun _ _ _ h => h) (Or.inl ⟨by kernel_rfl, ?_⟩) hS ?_
  · intro w hSw; (try dsimp only at hSw); exact exec_lookS _ _ rfl rfl rfl (HLK.out _ hSw.2.2)
  (try simp only [Act.put, List.getElem_toArray, List.getElem_cons_zero, List.getElem_cons_succ, List.setIfInBounds_toArray, List.set_cons_zero, List.set_cons_succ])
  refine wpAnyH_take (i := 6) (v := (.tuple #[.int .i64 (j : Int), .bool true])) rfl (by as_aux_lemma => kernel_rfl) (by as_aux_lemma => kernel_rfl) (by as_aux_lemma => kernel_rfl) (fun _ _ _ h => h) (Or.inl ⟨by kernel_rfl, ?_⟩) hS ?_
  · intro w hSw; (try dsimp only at hSw); go_simp
  (try simp only [Act.put, List.getElem_toArray, List.getElem_cons_zero, List.getElem_cons_succ, List.setIfInBounds_toArray, List.set_cons_zero, List.set_cons_succ])
  refine wpAnyH_take (i := 7) (v := (.int .i64 (j : Int))) rfl (by as_aux_lemma => kernel_rfl) (by as_aux_lemma => kernel_rfl) (by as_aux_lemma => kernel_rfl) (fun _ _ _ h => h) (Or.inl ⟨by kernel_rfl, ?_⟩) hS ?_
  · intro w hSw; (try dsimp only at hSw); go_simp
  (try simp only [Act.put, List.getElem_toArray, List.getElem_cons_zero, List.getElem_cons_succ, List.setIfInBounds_toArray, List.set_cons_zero, List.set_cons_succ])
  refine wpAnyH_take (i := 8) (v := (.bool true)) rfl (by as_aux_lemma => kernel_rfl) (by as_aux_lemma => kernel_rfl) (by as_aux_lemma => kernel_rfl) (fun _ _ _ h => h) (Or.inl ⟨by kernel_rfl, ?_⟩) hS ?_
  · intro w hSw; (try dsimp only at hSw); go_simp
  (try simp only [Act.put, List.getElem_toArray, List.getElem_cons_zero, List.getElem_cons_succ, List.setIfInBounds_toArray, List.set_cons_zero, List.set_cons_succ])
  refine wpAnyH_take (i := 9) (v := (.int .i64 (j : Int))) rfl (by as_aux_lemma => kernel_rfl) (by as_aux_lemma => kernel_rfl) (by as_aux_lemma => kernel_rfl) (fun _ _ _ h => h) (Or.inl ⟨by kernel_rfl, ?_⟩) hS ?_
  · intro w hSw; (try dsimp only at hSw); go_simp
  (try simp only [Act.put, List.getElem_toArray, List.getElem_cons_zero, List.getElem_cons_succ, List.setIfInBounds_toArray, List.set_cons_zero, List.set_cons_succ])
  refine wpAnyH_take (i := 10) (v := (.bool true)) rfl (by as_aux_lemma => kernel_rfl) (by as_aux_lemma => kernel_rfl) (by as_aux_lemma => kernel_rfl) (fun _ _ _ h => h) (Or.inl ⟨by kernel_rfl, ?_⟩) hS ?_
  · intro w hSw; (try dsimp only at hSw); go_simp
  (try simp only [Act.put, List.getElem_toArray, List.getElem_cons_zero, List.getElem_cons_succ, List.setIfInBounds_toArray, List.set_cons_zero, List.set_cons_succ])
  refine wpAnyH_done (by kernel_rfl) ?_ _
  go_wp2
  refine bodyPost_ret (v := .tuple #[.int .i64 (j : Int), .bool false]) (by simp [results, Tryz.results66, go_sem]) rfl ⟨rfl, ?_⟩
  exact HM.out.later (Below.refl _ _)
set_option maxRecDepth 20000 in
theorem builtOne (S : List Bool) (hS : S.length = 80) : Tryz.prog.built 115 [(0, .agg (boolsA S))] = some (mtC S (.slice none 0 0)).toArray := by
  obtain ⟨f0, f1, h1, h2, h3⟩ := under81
  unfold Program.built
  rw [h1]
  cases hq : Tryz.prog.info? 115 with
  | none => rw [hq] at h2; simp at h2
  | some i =>
    rw [hq] at h2
    simp only [Option.map_some, Option.some.injEq, Prod.mk.injEq] at h2
    simp only [h2.1, h3]
    have hz : (mtC (List.replicate 80 false) (.slice none 0 0)).length = 81 := mtC_len (by simp) _
    have hzd : List.drop 80 (mtC (List.replicate 80 false) (.slice none 0 0)) = [.slice none 0 0] := by simp [mtC]
    generalize mtC (List.replicate 80 false) (.slice none 0 0) = Z at hz hzd
    have hs1 : (Value.agg (boolsA S)).cells = boolsA S := rfl
    have hs2 : (Value.agg Z.toArray).cells = Z.toArray := rfl
    have hb : (boolsA S).size = 80 := by rw [boolsA_size, hS]
    rw [Instr.fill, hs1, hs2]
    simp only [List.getElem?_toArray, List.getElem?_cons_zero, hb, List.size_toArray, hz]
    rw [if_neg (by simp)]
    rw [fold_arr (boolsA S) Z.toArray 0 (by simp [hb, hz])]
    rw [Instr.fill]
    congr 1
    have e : (boolsA S).toList = S.map Value.bool := by simp [boolsA]
    simp [hb, e, mtC, hzd]

theorem wpList_buildOne {ops : Array Oper} {rest : List Oper} {o : Oper} {a : Act} {w : World} {Q : Exit → Act → World → Prop} (hgd : o.guard = none) (x : Operand) (ho : o.op = .build 115 #[(0, x)]) (S : List Bool) (hS : S.length = 80) (hx : a.eval x = .agg (boolsA S))
    (h : wpList Tryz.prog ops Q rest (a.put o.dst (.agg (mtC S (.slice none 0 0)).toArray)) w) : wpList Tryz.prog ops Q (o :: rest) a w := by
  refine wpList_plain hgd fun K hK => ?_
  have hr := run_build (P := Tryz.prog) w 115 #[(0, .agg (boolsA S))] (mtC S (.slice none 0 0)).toArray (builtOne S hS)
  unfold Oper.wp execOp
  simp only [ho, List.map_toArray, List.map_cons, List.map_nil, hx, Sem.run_bind, hr, Result.andThen_ok, Sem.run_pure]
  exact hK _ _ h

set_option maxHeartbeats 3200000 in
set_option maxRecDepth 20000 in
theorem enter_new (W0 w : World) (B b q : Nat) (z : Int) (pv v : Value) (ms : List Mt) (S : B80) (h : Mem W0 w B b q z pv v ms (entsFrom 0 ms)) (hnew : ∀ x ∈ ms, x.1.1 ≠ S.1) (hn : ms.length ≤ 1000000) :
    Calls Tryz.prog 66 #[.pointer (some ⟨B, 0, none⟩), .agg (boolsA S.1)] w fun r w' => r = .returned (.tuple #[.int .i64 (if (ms.length : Int) = z then 0 else (ms.length : Int)), .bool (decide ((ms.length : Int) = z))]) ∧ ∃ v' ms', ms' = (if (ms.length : Int) = z then [(S, [])] else ms ++ [(S, [])]) ∧ Mem W0 w' B b q z pv v' ms' (entsFrom 0 ms') := by
  have HNE : Hid (∀ e ∈ entsFrom 0 ms, e.st ≠ S.1) := by
    refine hid (fun e he hs => ?_)
    have h1 : e.st ∈ (entsFrom 0 ms).map (·.st) := List.mem_map.2 ⟨e, he, rfl⟩
    rw [entsFrom_st] at h1
    obtain ⟨x, hx, hxe⟩ := List.mem_map.1 h1
    exact hnew x hx (by rw [hxe, hs])
  have hel : ∀ w' : World, MtEl W0 w' W0.heap.size w'.heap.size (S, (.slice none 0 0, none)) (S, []) := fun w' => ⟨rfl, .inl ⟨rfl, none, rfl, by unfold maxLen; simp, ⟨rfl, .inl rfl⟩⟩⟩
  have HLK : Hid (∀ w', OwnP w' b (entsFrom 0 ms) → (Instr.lookup 105 (.map (some b)) (kvS S.1) true).run Tryz.prog w' = .ok (.tuple #[.int .i64 0, .bool false]) w') := hid (fun w' h' => OwnP.lookNot h' (setOk S.2) HNE.out true)
  have HPUT : Hid _ := fun w' v' ms' E' h1 h2 h3 => put_any W0 w' B b q z pv v' ms' E' h1 (S, (.slice none 0 0, none)) (S, []) rfl hel h2 h3
  obtain ⟨va, vc, rfl, -, -⟩ := RowN.shape muE_len h.rows
  obtain ⟨W1, hW1⟩ : ∃ W1, W1 = w.alloc (.cells (boolsA S.1) 111) := ⟨_, rfl⟩
  have HM : Hid (Mem W0 W1.drew B b q z pv (.slice va ms.length vc) ms (entsFrom 0 ms)) := by rw [hW1]; exact hid (h.later ((Below.refl w.heap.size w).alloc (Nat.le_refl _) _).drew)
  have HM0 : Hid (Mem W0 W1 B b q z pv (.slice va ms.length vc) ms (entsFrom 0 ms)) := by rw [hW1]; exact hid (h.later ((Below.refl w.heap.size w).alloc (Nat.le_refl _) _))
  have HX0 : Hid (Blk W1 w.heap.size (boolsA S.1) 111) := by rw [hW1]; exact hid (Blk.new w _ _)
  have HX : Hid (Blk W1.drew w.heap.size (boolsA S.1) 111) := by rw [hW1]; exact hid (Blk.new w _ _)
  have HXB : Hid (w.heap.size ≠ B) := hid (by have := h.blk.lt; omega)
  have hS80 := S.2
  clear h hnew hel
  generalize hXX : w.heap.size = X at *
  obtain ⟨T, hT⟩ : ∃ T, T = S.1 := ⟨_, rfl⟩
  rw [← hT] at HLK HX HX0 hS80
  have HTT := hid hT
  have HMU : Hid (muE (S, (Value.slice none 0 0, none)) = mtC T (.slice none 0 0)) := by rw [hT]; exact hid rfl
  rw [← hT]
  rw [← hT] at hW1
  clear hT
  go_enter Tryz.func66, Tryz.ntmps66
  go_wp2_with fail
  rw [← hW1]
  clear hW1
  refine wp_region_held_drew (S := fun w' => w'.cell? ⟨B, 2, none⟩ = some (.map (some b)) ∧ Blk w' X (boolsA T) 111 ∧ OwnP w' b (entsFrom 0 ms)) (by kernel_rfl) (by exact ⟨by have := HM.out.blk.cell 2; simpa using this, HX.out, HM.out.map⟩) (fun hS => ?_)
  refine wpAnyH_take (i := 0) (v := (.pointer (some ⟨B, 0, none⟩))) rfl (by as_aux_lemma => kernel_rfl) (by as_aux_lemma => kernel_rfl) (by as_aux_lemma => kernel_rfl) (fun _ _ _ h => h) (Or.inl ⟨by kernel_rfl, ?_⟩) hS ?_
  · intro w hSw; (try dsimp only at hSw); go_simp
  (try simp only [Act.put, List.getElem_toArray, List.getElem_cons_zero, List.getElem_cons_succ, List.setIfInBounds_toArray, List.set_cons_zero, List.set_cons_succ])
  refine wpAnyH_take (i := 1) (v := (.pointer (some ⟨B, 0, none⟩))) rfl (by as_aux_lemma => kernel_rfl) (by as_aux_lemma => kernel_rfl) (by as_aux_lemma => kernel_rfl) (fun _ _ _ h => h) (Or.inl ⟨by kernel_rfl, ?_⟩) hS ?_
  · intro w hSw; (try dsimp only at hSw); go_simp
  (try simp only [Act.put, List.getElem_toArray, List.getElem_cons_zero, List.getElem_cons_succ, List.setIfInBounds_toArray, List.set_cons_zero, List.set_cons_succ])
  refine wpAnyH_take (i := 2) (v := (.pointer (some ⟨B, 2, none⟩))) rfl (by as_aux_lemma => kernel_rfl) (by as_aux_lemma => kernel_rfl) (by as_aux_lemma => kernel_rfl) (fun _ _ _ h => h) (Or.inl ⟨by kernel_rfl, ?_⟩) hS ?_
  · intro w hSw; (try dsimp only at hSw); go_simp
  (try simp only [Act.put, List.getElem_toArray, List.getElem_cons_zero, List.getElem_cons_succ, List.setIfInBounds_toArray, List.set_cons_zero, List.set_cons_succ])
  refine wpAnyH_take (i := 3) (v := (.map (some b))) rfl (by as_aux_lemma => kernel_rfl) (by as_aux_lemma => kernel_rfl) (by as_aux_lemma => kernel_rfl) (fun _ _ _ h => h) (Or.inl ⟨by kernel_rfl, ?_⟩) hS ?_
  · intro w hSw; (try dsimp only at hSw); have hc2 := hSw.1; go_simp
  (try simp only [Act.put, List.getElem_toArray, List.getElem_cons_zero, List.getElem_cons_succ, List.setIfInBounds_toArray, List.set_cons_zero, List.set_cons_succ])
  refine wpAnyH_take (i := 4) (v := (.agg (boolsA T))) rfl (by as_aux_lemma => kernel_rfl) (by as_aux_lemma => kernel_rfl) (by as_aux_lemma => kernel_rfl) (fun _ _ _ h => h) (Or.inl ⟨by kernel_rfl, ?_⟩) hS ?_
  · intro w hSw; (try dsimp only at hSw); exact exec_load_row 111 _ rfl X rfl 111 (boolsA T) _ hSw.2.1 under80 rfl (size80 (size_set80 hS80))
  (try simp only [Act.put, List.getElem_toArray, List.getElem_cons_zero, List.getElem_cons_succ, List.setIfInBounds_toArray, List.set_cons_zero, List.set_cons_succ])
  refine wpAnyH_take (i := 5) (v := (.tuple #[.int .i64 0, .bool false])) rfl (by as_aux_lemma => kernel_rfl) (by as_aux_lemma => kernel_rfl) (by as_aux_lemma => kernel_rfl) (fun _ _ _ h => h) (Or.inl ⟨by kernel_rfl, ?_⟩) hS ?_
  · intro w hSw; (try dsimp only at hSw); exact exec_lookS _ _ rfl rfl rfl (HLK.out _ hSw.2.2)
  (try simp only [Act.put, List.getElem_toArray, List.getElem_cons_zero, List.getElem_cons_succ, List.setIfInBounds_toArray, List.set_cons_zero, List.set_cons_succ])
  refine wpAnyH_take (i := 6) (v := (.tuple #[.int .i64 0, .bool false])) rfl (by as_aux_lemma => kernel_rfl) (by as_aux_lemma => kernel_rfl) (by as_aux_lemma => kernel_rfl) (fun _ _ _ h => h) (Or.inl ⟨by kernel_rfl, ?_⟩) hS ?_
  · intro w hSw; (try dsimp only at hSw); go_simp
  (try simp only [Act.put, List.getElem_toArray, List.getElem_cons_zero, List.getElem_cons_succ, List.setIfInBounds_toArray, List.set_cons_zero, List.set_cons_succ])
  refine wpAnyH_take (i := 7) (v := (.int .i64 0)) rfl (by as_aux_lemma => kernel_rfl) (by as_aux_lemma => kernel_rfl) (by as_aux_lemma => kernel_rfl) (fun _ _ _ h => h) (Or.inl ⟨by kernel_rfl, ?_⟩) hS ?_
  · intro w hSw; (try dsimp only at hSw); go_simp
  (try simp only [Act.put, List.getElem_toArray, List.getElem_cons_zero, List.getElem_cons_succ, List.setIfInBounds_toArray, List.set_cons_zero, List.set_cons_succ])
  refine wpAnyH_take (i := 8) (v := (.bool false)) rfl (by as_aux_lemma => kernel_rfl) (by as_aux_lemma => kernel_rfl) (by as_aux_lemma => kernel_rfl) (fun _ _ _ h => h) (Or.inl ⟨by kernel_rfl, ?_⟩) hS ?_
  · intro w hSw; (try dsimp only at hSw); go_simp
  (try simp only [Act.put, List.getElem_toArray, List.getElem_cons_zero, List.getElem_cons_succ, List.setIfInBounds_toArray, List.set_cons_zero, List.set_cons_succ])
  refine wpAnyH_take (i := 9) (v := (.int .i64 0)) rfl (by as_aux_lemma => kernel_rfl) (by as_aux_lemma => kernel_rfl) (by as_aux_lemma => kernel_rfl) (fun _ _ _ h => h) (Or.inl ⟨by kernel_rfl, ?_⟩) hS ?_
  · intro w hSw; (try dsimp only at hSw); go_simp
  (try simp only [Act.put, List.getElem_toArray, List.getElem_cons_zero, List.getElem_cons_succ, List.setIfInBounds_toArray, List.set_cons_zero, List.set_cons_succ])
  refine wpAnyH_take (i := 10) (v := (.bool false)) rfl (by as_aux_lemma => kernel_rfl) (by as_aux_lemma => kernel_rfl) (by as_aux_lemma => kernel_rfl) (fun _ _ _ h => h) (Or.inl ⟨by kernel_rfl, ?_⟩) hS ?_
  · intro w hSw; (try dsimp only at hSw); go_simp
  (try simp only [Act.put, List.getElem_toArray, List.getElem_cons_zero, List.getElem_cons_succ, List.setIfInBounds_toArray, List.set_cons_zero, List.set_cons_succ])
  refine wpAnyH_done (by kernel_rfl) ?_ _
  have c0 : W1.cell? ⟨B, 0, none⟩ = some (.int .i64 z) := by have := HM.out.blk.cell 0; simpa using this
  have c1 : W1.cell? ⟨B, 1, none⟩ = some (.slice va ms.length vc) := by have := HM.out.blk.cell 1; simpa using this
  clear hS
  have HBX : ∀ w' : World, Blk w' X (boolsA T) 111 → Hid (∀ j y, (T.map Value.bool)[j]? = some y → w'.cell? ⟨X, 0 + j, none⟩ = some y) := fun w' hb => hid (fun j y hy => by
    rw [Nat.zero_add, hb.cell]
    simpa [boolsA] using hy)
  have HBXH := hid HBX
  clear HBX
  by_cases hz : (ms.length : Int) = z
  · go_wp2_with fail
    go_quiet (fail)
    go_wp2_with fail
    have HMn := hid (HM0.out.later (below_drewN (Below.refl _ _) (1 + nq)))
    have HXn := hid (Blk.below HX0.out (below_drewN (Below.refl _ _) (1 + nq)))
    refine Calls.mono (forget_any W0 _ B b q z pv _ ms _ HMn.out) ?_
    rintro r w2 ⟨rfl, v2, hm2, hf2⟩
    have HXC := HBXH.out w2 (hf2 X _ _ HXn.out (by decide) HXB.out)
    have hput := HPUT.out w2 v2 [] [] hm2 (by simp) (fun e he => by simp at he)
    rw [HMU.out] at hput
    have HP := hid hput
    clear hput hm2 hf2
    go_wp2_with (first | ((with_reducible show wpList _ _ _ (({ dst := _, op := .load 111 _, type := _, pos := _, after := _, guard := _ } : Oper) :: _) _ _); refine wpList_load_at rfl 111 _ rfl X 0 rfl (T.map Value.bool) _ HXC.out under80 rfl (sizeS hS80) ?_) | ((with_reducible show wpList _ _ _ (({ dst := _, op := .build 115 _, type := _, pos := _, after := _, guard := _ } : Oper) :: _) _ _); refine wpList_buildOne rfl _ rfl T hS80 rfl ?_))
    refine Calls.mono HP.out ?_
    rintro r w3 ⟨rfl, v3, hm3, -⟩
    have HM3 := hid hm3
    clear hm3
    go_wp2
    refine bodyPost_ret (v := .tuple #[.int .i64 0, .bool true]) (by simp [results, Tryz.results66, go_sem] <;> omega) rfl ⟨rfl, v3, ?_⟩
    have := HM3.out
    simpa [entsFrom] using this
  · go_wp2_with fail
    go_quiet (fail)
    have HXC := HBXH.out (W1.drew.drewN nq) (Blk.below HX.out (below_drewN (Below.refl _ _) nq))
    have hput := HPUT.out (W1.drewN (1 + nq)) _ ms _ (HM0.out.later (below_drewN (Below.refl _ _) (1 + nq))) hn HNE.out
    rw [HMU.out] at hput
    have HP := hid hput
    clear hput
    go_wp2_with (first | ((with_reducible show wpList _ _ _ (({ dst := _, op := .load 111 _, type := _, pos := _, after := _, guard := _ } : Oper) :: _) _ _); refine wpList_load_at rfl 111 _ rfl X 0 rfl (T.map Value.bool) _ HXC.out under80 rfl (sizeS hS80) ?_) | ((with_reducible show wpList _ _ _ (({ dst := _, op := .build 115 _, type := _, pos := _, after := _, guard := _ } : Oper) :: _) _ _); refine wpList_buildOne rfl _ rfl T hS80 rfl ?_))
    refine Calls.mono HP.out ?_
    rintro r w3 ⟨rfl, v3, hm3, -⟩
    have HM3 := hid hm3
    clear hm3
    go_wp2
    refine bodyPost_ret (v := .tuple #[.int .i64 (ms.length : Int), .bool false]) (by simp [results, Tryz.results66, go_sem] <;> omega) rfl ⟨rfl, v3, ?_⟩
    have := HM3.out
    rw [entsFrom_snoc, Nat.zero_add]
    exact this
end Go.Proofs.YtlemdjgpkmjihaaGreat

namespace Go.Proofs.YtlemdjgpkmjihaaGreat
open Go.RowKit
set_option linter.unusedVariables false
set_option linter.unusedSimpArgs false

theorem wpList_appArcs {w : World} {ops : Array Oper} {rest : List Oper} {o : Oper} {a : Act} {Q : Exit → Act → World → Prop} (hgd : o.guard = none) (s x : Operand) (ho : o.op = .call { callee := .builtin .append, args := #[s, x], argTypes := #[89, 89] })
    (base : Nat) (v : Value) (n : Nat) (xs : List L2) (hs : a.eval s = v) (hown : OwnR lineE 2 99 w base v n xs)
    (sa : Option Addr) (m c : Nat) (ys : List L2) (hx : a.eval x = .slice sa m c) (hr : RdR lineE 2 w sa m ys) (h63 : n + m ≤ 2097152) (hbase : base ≤ w.heap.size)
    (h : ∀ v' w', OwnR lineE 2 99 w' base v' (n + m) (xs ++ ys) → w.grownBy w' v.ownBlock → wpList Tryz.prog ops Q rest (a.put o.dst v') w') : wpList Tryz.prog ops Q (o :: rest) a w :=
  wpList_plain hgd fun _ hK => wp_appArcs s x ho base v n xs hs hown sa m c ys hx hr h63 hbase fun v' w' h1 h2 => hK _ _ (h v' w' h1 h2)

theorem clone_any (a : Option Addr) (n ca : Nat) (xs : List L2) (w : World) (hr : RdR lineE 2 w a n xs) (hn : n ≤ 1048576) :
    Calls Tryz.prog 68 #[.slice a n ca] w fun e w' => ∃ v, e = .returned v ∧ OwnR lineE 2 99 w' w.heap.size v n xs ∧ Below w.heap.size w w' := by
  have q22 : ∀ (w : World) (a : Option Addr) (n c : Nat), (binOp .eql 89 (.slice a n c) (.slice none 0 0)).run Tryz.prog w = .ok (.bool a.isNone) w := fun w a n c => by
    have h := run_neq_slice_nil_any (P := Tryz.prog) w 89 99 a n c 0 0 Tryz.underlying89
    simp only [binOp]
    simp [Op.equal, Op.maxDepth, Lib.run_equalIn_slice_nil w 9999 89 99 a n c 0 0 Tryz.underlying89]
  cases a with
  | none =>
    have hm : n = 0 := by
      rcases hr.2 with h0 | ⟨b, off, ha, _⟩
      · exact h0
      · cases ha
    subst hm
    obtain rfl : xs = [] := List.eq_nil_of_length_eq_zero hr.1
    go_enter Tryz.func68, Tryz.ntmps68
    go_wp2
    go_ret
    exact ⟨_, rfl, OwnR.nil _ _ _ _ _, Below.refl _ _⟩
  | some ad =>
    have HR := hid hr
    clear hr
    have hb := (Below.refl w.heap.size w).alloc (Nat.le_refl _) (.cells #[] 99)
    have HO : Hid (OwnR lineE 2 99 (w.alloc (.cells #[] 99)) w.heap.size (.slice (some ⟨w.heap.size, 0, none⟩) 0 0) 0 []) := hid ⟨rfl, World.ownsRow_lit w #[] _ (Nat.le_refl _) (by unfold maxLen; omega) rfl⟩
    have HRD := hid (HR.out.below hb)
    have HB := hid hb
    clear hb
    go_enter Tryz.func68, Tryz.ntmps68
    go_wp2_with ((with_reducible show wpList _ _ _ (({ dst := _, op := .call { callee := .builtin .append, args := _, argTypes := _ }, type := _, pos := _, after := _, guard := _ } : Oper) :: _) _ _); refine wpList_appArcs rfl _ _ rfl w.heap.size _ 0 [] rfl HO.out (some ad) n ca xs rfl HRD.out (by omega) (by simp) ?_)
    intro v' w2 ho hg
    have HO2 := hid ho
    have HB2 := hid (HB.out.grown hg (by simp) (fun j hj => (HO.out.lt j hj).1))
    clear ho hg
    go_wp2
    go_ret
    exact ⟨_, rfl, HO2.out, HB2.out⟩
end Go.Proofs.YtlemdjgpkmjihaaGreat

namespace Go.Proofs.YtlemdjgpkmjihaaGreat
open Go.RowKit
set_option linter.unusedVariables false
set_option linter.unusedSimpArgs false

set_option maxHeartbeats 6400000 in
set_option maxRecDepth 20000 in
theorem table_any (W0 w : World) (B b q : Nat) (z : Int) (pv v : Value) (ts : List St) (n : Nat) (E : List Es) (h : Mem W0 w B b q z pv v (ts.map mtOf) E) (hn : ts.length = n) (hn12 : n ≤ 12)
    (hr : ∀ y ∈ ts, ((y.1.Pairwise (· < ·) ∧ ∀ z ∈ y.1, 0 ≤ z ∧ z < 80) ∧ y.1.length ≤ 80) ∧ y.2.length ≤ 65536) :
    Calls Tryz.prog 36 #[.pointer (some ⟨B, 0, none⟩)] w fun e w' => ∃ va c, e = .returned (.agg #[.int .i64 z, .slice va n c]) ∧ RowT false 91 2 99 w' w.heap.size w'.heap.size (.slice va n c) n ts ∧ Below w.heap.size w w' := by
  have HR := hid hr
  have HLN := hid hn
  obtain ⟨f0, f1, U81, -, -⟩ := under81
  obtain ⟨Z, hZ⟩ : ∃ Z, Z = (mtC (List.replicate 80 false) (.slice none 0 0)).toArray := ⟨_, rfl⟩
  have hzv := zero81
  rw [← hZ] at hzv
  have HZS : Hid (Z.size = 81) := by rw [hZ, List.size_toArray]; exact mtC_len (by rw [List.length_replicate]) _
  obtain ⟨va, vc0, rfl, -, -⟩ := RowN.shape muE_len h.rows
  have hml : (ts.map mtOf).length = n := by rw [List.length_map, hn]
  rw [hml] at h
  have HM := hid h
  have c0 : w.cell? ⟨B, 0, none⟩ = some (.int .i64 z) := h.blk.cell 0
  have c1 : w.cell? ⟨B, 1, none⟩ = some (.slice va n vc0) := h.blk.cell 1
  have k0 : ∀ o, (w.alloc o).cell? ⟨B, 0, none⟩ = some (.int .i64 z) := fun o => cell_later ((Below.refl _ _).alloc (Nat.le_refl _) o) c0
  have k1 : ∀ o o', ((w.alloc o).alloc o').cell? ⟨B, 1, none⟩ = some (.slice va n vc0) := fun o o' => cell_later (((Below.refl w.heap.size w).alloc (Nat.le_refl _) o).alloc (by simp) o') c1
  clear hr hn hZ hml h
  obtain ⟨R, hR⟩ : ∃ R, R = w.heap.size := ⟨_, rfl⟩
  obtain ⟨T, hT⟩ : ∃ T, T = R + 1 := ⟨_, rfl⟩
  obtain ⟨lo, hlo⟩ : ∃ lo, lo = T + 1 := ⟨_, rfl⟩
  go_enter Tryz.func36, Tryz.ntmps36
  go_wp2
  go_loopw [16] (fun i wr => ∃ (k : Nat) (vt : Option Addr) (ct : Nat), k ≤ n ∧ i = .int .i64 k ∧ Hid (Blk wr R #[.int .i64 0, .slice none 0 0] 30) ∧ Hid (Blk wr T #[.int .i64 z, .slice vt k ct] 30) ∧ Hid (RowT false 91 2 99 wr lo wr.heap.size (.slice vt k ct) k (ts.take k)) ∧ Hid (Below w.heap.size w wr)) (fun i _ => n - (intOf i).toNat)
  case atStart =>
    subst hlo hT hR
    refine ⟨0, none, 0, Nat.zero_le _, rfl, (Blk.new w _ _).alloc _, Blk.new1 w _ _ _, RowN.nil _ _ _, ?_⟩
    exact ((Below.refl w.heap.size w).alloc (Nat.le_refl _) _).alloc (by simp) _
  case round =>
    obtain ⟨k, vt, ct, hk, rfl, hbr, hbt, hrow, hbw0⟩ := hrel
    have hbw := hbw0.out
    clear hbw0
    simp only [← hR, ← hT]
    have i1 : R ≤ w.heap.size := by omega
    have i2 : w.heap.size ≤ R := by omega
    have i4 : R < T := by omega
    have i5 : T < lo := by omega
    have i6 : lo ≤ w.heap.size + 2 := by omega
    clear hR hT hlo k0 k1
    have g1 := hbt.out.cell 1
    have g2 := hbt.out.cell 0
    have g3 := hbr.out.cell 0
    have g4 := hbr.out.cell 1
    have gf0 := hbr.out.frozen 0
    have gf1 := hbr.out.frozen 1
    simp at g1 g2 g3 g4
    by_cases hlt : k < n
    · obtain ⟨ss, az, hx⟩ : ∃ ss az, ts[k]? = some (ss, az) := by
        have hk' : k < ts.length := by rw [HLN.out]; exact hlt
        exact ⟨ts[k].1, ts[k].2, by simp [hk']⟩
      have hM := HM.out.later hbw
      obtain ⟨g, vc, ra, rc, e0, hc, har, q1, q2⟩ := hM.at (j := k) (x := mtOf (ss, az)) (by simp [hx])
      simp only [List.length_map, HLN.out, Value.slice.injEq, true_and] at e0
      obtain ⟨rfl, rfl⟩ := e0
      have HC : Hid (∀ f y, (mtC (markB ss) (.slice ra az.length rc))[f]? = some y → wr.cell? ⟨g, k * 81 + f, none⟩ = some y) := hid hc
      have HSZ1 : Hid ((Tryz.prog.info? 115).map (·.size) = some (mtC (markB ss) (.slice ra az.length rc)).toArray.size) := by rw [List.size_toArray]; exact hid (size81 (mtC_len (markB_len _) _))
      have HSZ2 : Hid (Z.size = (mtC (markB ss) (.slice ra az.length rc)).toArray.size) := by rw [HZS.out, List.size_toArray]; exact hid (mtC_len (markB_len _) _).symm
      have HZB := hid (Blk.new wr Z 115)
      have HO : Hid ((mtC (markB ss) (.slice ra az.length rc)).toArray.all (·.oneCell') = true) := by
        rw [Array.all_eq_true_iff_forall_mem]
        exact hid (fun y hy => mtC_one _ _ _ _ y (by simpa using hy))
      have hb3 : Below wr.heap.size wr ((wr.alloc (.cells Z 115)).setRow wr.heap.size (mtC (markB ss) (.slice ra az.length rc)).toArray) := below_setRow ((Below.refl _ _).alloc (Nat.le_refl _) _) (Nat.le_refl _) _
      have HD3 := hid (HZB.out.setRow (mtC (markB ss) (.slice ra az.length rc)).toArray)
      have HAR : Hid (RdR lineE 2 wr ra az.length az) := hid har
      obtain ⟨⟨⟨p1, p2⟩, p3⟩, p4⟩ := HR.out _ (List.mem_of_getElem? hx)
      simp only at p1 p2 p3 p4
      have HMB : Hid (placesOf (markB ss) = ss) := hid (markB_back p1 p2)
      have hlt' : (k : Int) < (n : Int) := by omega
      have HTK : Hid (ts.take (k + 1) = ts.take k ++ [(ss, az)]) := by
        obtain ⟨hj, e'⟩ := List.getElem?_eq_some_iff.1 hx
        exact hid (by rw [List.take_succ_eq_append_getElem hj, e'])
      clear hc har hx q1 q2 hM p1 p2 p3
      obtain ⟨wo, rfl⟩ : ∃ wo : World, wo = wr := ⟨_, rfl⟩
      go_wp2_with (first | ((with_reducible show wpList _ _ _ (({ dst := _, op := .load 115 _, type := _, pos := _, after := _, guard := _ } : Oper) :: _) _ _); refine wpList_load_at rfl 115 _ rfl g (k * 81) rfl (mtC (markB ss) (.slice ra az.length rc)) _ HC.out U81 rfl (size81 (mtC_len (markB_len _) _)) ?_) | ((with_reducible show wpList _ _ _ (({ dst := _, op := .store 115 _ _, type := _, pos := _, after := _, guard := _ } : Oper) :: _) _ _); refine wpList_store_row rfl 115 _ _ rfl wo.heap.size (mtC (markB ss) (.slice ra az.length rc)).toArray rfl rfl 115 Z HZB.out HSZ1.out HSZ2.out HO.out ?_))
      obtain ⟨W3, hW3⟩ : ∃ W3, W3 = (wo.alloc (.cells Z 115)).setRow wo.heap.size (mtC (markB ss) (.slice ra az.length rc)).toArray := ⟨_, rfl⟩
      rw [← hW3] at hb3 HD3 ⊢
      clear hW3 HZB HO HSZ1 HSZ2 HC
      have HBX : Hid (Blk W3 wo.heap.size (mtC (markB ss) (.slice ra az.length rc)).toArray 115) := hid (by have := HD3.out; simpa using this)
      have hxw : wo.heap.size < W3.heap.size := HBX.out.lt
      have htx : T < wo.heap.size := hbt.out.lt
      generalize hD0 : wo.heap.size = X at HBX hxw htx
      have j1 : wo.heap.size ≤ X := by omega
      clear hD0
      refine region_join (fun act a' w' => ∃ z24 z27 z28 z29 a3 e3, a' = ((((((((((((act.put (some 20) (.pointer (some ⟨T, 1, none⟩))).put (some 21) (.slice vt k ct)).put (some 22) (.pointer (some ⟨X, 0, none⟩))).put (some 23) (.agg (boolsA (markB ss)))).put (some 24) (z24)).put (some 25) (.pointer (some ⟨X, 80, none⟩))).put (some 26) (.slice ra az.length rc)).put (some 27) (z27)).put (some 28) (z28)).put (some 29) (z29)).put (some 30) (.slice a3 (k + 1) e3)).put (some 31) (.pointer (some ⟨T, 1, none⟩))) ∧ Blk w' T #[.int .i64 z, .slice a3 (k + 1) e3] 30 ∧ Blk w' R #[.int .i64 0, .slice none 0 0] 30 ∧ RowT false 91 2 99 w' lo w'.heap.size (.slice a3 (k + 1) e3) (k + 1) (ts.take (k + 1)) ∧ Below w.heap.size w w') ?_ ?_
      · obtain ⟨D, hD⟩ : ∃ D, D = W3.drew := ⟨_, rfl⟩
        have hbd : Below wo.heap.size wo D := by rw [hD]; exact hb3.drew
        have hbe : Below W3.heap.size W3 D := by rw [hD]; exact (Below.refl _ _).drew
        have HX0 : Hid (Blk D X (mtC (markB ss) (.slice ra az.length rc)).toArray 115) := hid (Blk.of HBX.out hbe)
        have HROW : Hid (RowT false 91 2 99 D lo D.heap.size (.slice vt k ct) k (ts.take k)) := hid (RowN.mono (tabOk false) (RowN.below (tabOk false) hrow.out hbd) (Nat.le_refl _) hbd.size)
        have HBT : Hid (Blk D T #[.int .i64 z, .slice vt k ct] 30) := hid (Blk.of hbt.out hbd)
        have HBR : Hid (Blk D R #[.int .i64 0, .slice none 0 0] 30) := hid (Blk.of hbr.out hbd)
        have HBW : Hid (Below w.heap.size w D) := hid (hbw.trans (hbd.mono hbw.size))
        have dT : D.cell? ⟨T, 1, none⟩ = some (.slice vt k ct) := by have := HBT.out.cell 1; simpa using this
        have hrq := HAR.out.below hbd
        have hb0 : Below D.heap.size D D := Below.refl _ _
        have hlD : lo ≤ D.heap.size := by have := HBT.out.lt; omega
        have i7 : w.heap.size ≤ D.heap.size := HBW.out.size
        clear hbd hbe hb3 g1 g2 g3 g4 gf0 gf1 hrow hbt hbr hbw c0 c1 HM HAR HBX HD3
        refine wp_region_held_drew (S := fun w' => Blk w' X (mtC (markB ss) (.slice ra az.length rc)).toArray 115 ∧ ∃ u, w'.cell? ⟨T, 1, none⟩ = some u) (by kernel_rfl) (by rw [← hD]; exact ⟨HX0.out, _, dT⟩) (fun hS => ?_)
        rw [← hD] at hS ⊢
        clear hD
        refine wpAnyH_take (i := 0) (v := (.pointer (some ⟨T, 1, none⟩))) rfl (by as_aux_lemma => kernel_rfl) (by as_aux_lemma => kernel_rfl) (by as_aux_lemma => kernel_rfl) (fun _ _ _ h => nomatch h.1) (Or.inl ⟨by kernel_rfl, ?_⟩) hS ?_
        · intro w hSw; (try dsimp only at hSw); go_simp
        simp only [Act.put, List.getElem_toArray, List.getElem_cons_zero, List.getElem_cons_succ, List.setIfInBounds_toArray, List.set_cons_zero, List.set_cons_succ]
        refine wpAnyH_take (i := 2) (v := (.pointer (some ⟨X, 0, none⟩))) rfl (by as_aux_lemma => kernel_rfl) (by as_aux_lemma => kernel_rfl) (by as_aux_lemma => kernel_rfl) (fun _ _ _ h => nomatch h.1) (Or.inl ⟨by kernel_rfl, ?_⟩) hS ?_
        · intro w hSw; (try dsimp only at hSw); go_simp
        simp only [Act.put, List.getElem_toArray, List.getElem_cons_zero, List.getElem_cons_succ, List.setIfInBounds_toArray, List.set_cons_zero, List.set_cons_succ]
        refine wpAnyH_take (i := 3) (v := (.agg (boolsA (markB ss)))) rfl (by as_aux_lemma => kernel_rfl) (by as_aux_lemma => kernel_rfl) (by as_aux_lemma => kernel_rfl) (fun _ _ _ h => nomatch h.1) (Or.inl ⟨by kernel_rfl, ?_⟩) hS ?_
        · intro w hSw; (try dsimp only at hSw); exact exec_load_at 111 _ rfl X 0 rfl ((markB ss).map Value.bool) _ (mtC_set hSw.1) under80 rfl (sizeS (markB_len ss))
        simp only [Act.put, List.getElem_toArray, List.getElem_cons_zero, List.getElem_cons_succ, List.setIfInBounds_toArray, List.set_cons_zero, List.set_cons_succ]
        refine wpAnyH_take (i := 5) (v := (.pointer (some ⟨X, 80, none⟩))) rfl (by as_aux_lemma => kernel_rfl) (by as_aux_lemma => kernel_rfl) (by as_aux_lemma => kernel_rfl) (fun _ _ _ h => nomatch h.1) (Or.inl ⟨by kernel_rfl, ?_⟩) hS ?_
        · intro w hSw; (try dsimp only at hSw); go_simp
        simp only [Act.put, List.getElem_toArray, List.getElem_cons_zero, List.getElem_cons_succ, List.setIfInBounds_toArray, List.set_cons_zero, List.set_cons_succ]
        refine wpAnyH_take (i := 6) (v := (.slice ra az.length rc)) rfl (by as_aux_lemma => kernel_rfl) (by as_aux_lemma => kernel_rfl) (by as_aux_lemma => kernel_rfl) (fun _ _ _ h => nomatch h.1) (Or.inl ⟨by kernel_rfl, ?_⟩) hS ?_
        · intro w hSw; (try dsimp only at hSw); (have h80 : w.cell? ⟨X, 80, none⟩ = some (.slice ra az.length rc) := by (rw [hSw.1.cell 80, List.getElem?_toArray]; exact mtC_last (markB_len ss) _)); go_simp
        simp only [Act.put, List.getElem_toArray, List.getElem_cons_zero, List.getElem_cons_succ, List.setIfInBounds_toArray, List.set_cons_zero, List.set_cons_succ]
        refine wpAnyH_ready (rs := [1, 4]) (by as_aux_lemma => kernel_rfl) (by simp) ?_
        refine AllReadyH.cons rfl (fun K hK => ?_) (AllReadyH.cons rfl (fun K hK => ?_) AllReadyH.nil)
        · skip
          have k1 := cell_later hb0 dT
          go_simp
          refine hK.out _ _ (hS) (fun hS2 => ?_)
          clear hK K hS
          have hS := hS2
          clear hS2
          (try simp only [Act.put, List.getElem_toArray, List.getElem_cons_zero, List.getElem_cons_succ, List.setIfInBounds_toArray, List.set_cons_zero, List.set_cons_succ])
          clear k1
          refine wpAnyH_ready (rs := [4]) (by as_aux_lemma => kernel_rfl) (by simp) ?_
          refine AllReadyH.cons rfl (fun K hK => ?_) AllReadyH.nil
          go_simp
          refine Calls.mono (list_any (boolsA (markB ss)) (markB ss) rfl (markB_len ss) _) ?_
          rintro e W1 ⟨v1, rfl, oI1, hc1⟩
          rw [HMB.out] at oI1
          obtain ⟨a1, e1, rfl, -, -⟩ := (RowI.of oI1).shape
          have hb1 : Below D.heap.size D W1 := hb0.trans (hc1.mono hb0.size)
          replace oI1 := Own.up oI1 hb0.size
          refine hK.out _ _ (⟨Blk.of HX0.out hb1, _, cell_later hb1 dT⟩) (fun hS2 => ?_)
          clear hK K hS
          have hS := hS2
          clear hS2
          (try simp only [Act.put, List.getElem_toArray, List.getElem_cons_zero, List.getElem_cons_succ, List.setIfInBounds_toArray, List.set_cons_zero, List.set_cons_succ])
          refine wpAnyH_ready (rs := [7]) (by as_aux_lemma => kernel_rfl) (by simp) ?_
          refine AllReadyH.cons rfl (fun K hK => ?_) AllReadyH.nil
          go_simp
          refine Calls.mono (clone_any ra az.length rc az _ (hrq.below hb1) (by omega)) ?_
          rintro e W2 ⟨v2, rfl, oA2, hc2⟩
          obtain ⟨a2, e2, rfl, -, -⟩ := (RowS.of oA2).shape lineE_len
          have hb2 : Below D.heap.size D W2 := hb1.trans (hc2.mono hb1.size)
          replace oA2 := OwnR.up oA2 hb1.size
          have oI2 := oI1.below hc2
          refine hK.out _ _ (⟨Blk.of HX0.out hb2, _, cell_later hb2 dT⟩) (fun hS2 => ?_)
          clear hK K hS
          have hS := hS2
          clear hS2
          (try simp only [Act.put, List.getElem_toArray, List.getElem_cons_zero, List.getElem_cons_succ, List.setIfInBounds_toArray, List.set_cons_zero, List.set_cons_succ])
          refine wpAnyH_take (i := 8) (v := (.agg #[.slice a1 ss.length e1, .slice a2 az.length e2])) rfl (by as_aux_lemma => kernel_rfl) (by as_aux_lemma => kernel_rfl) (by as_aux_lemma => kernel_rfl) (fun _ _ _ h => nomatch h.1) (Or.inl ⟨by kernel_rfl, ?_⟩) hS ?_
          · intro w hSw; (try dsimp only at hSw); go_simp
          simp only [Act.put, List.getElem_toArray, List.getElem_cons_zero, List.getElem_cons_succ, List.setIfInBounds_toArray, List.set_cons_zero, List.set_cons_succ]
          refine wpAnyH_ready (rs := [9]) (by as_aux_lemma => kernel_rfl) (by simp) ?_
          refine AllReadyH.cons rfl (fun K hK => ?_) AllReadyH.nil
          rw [if_pos (by rfl)]
          go_simp
          obtain ⟨W3, hW⟩ : ∃ V, V = W2.alloc (.cells #[.slice a1 ss.length e1, .slice a2 az.length e2] 91) := ⟨_, rfl⟩
          rw [← hW]
          have hb3 : Below D.heap.size D W3 := by rw [hW]; exact hb2.alloc hb2.size _
          have hg3 : W2.grownBy W3 none := by rw [hW]; exact World.grownBy_alloc _ _ none
          have oI3 := oI2.kept hg3 (fun _ _ e => nomatch e)
          have oA3 := oA2.kept hg3 (fun _ _ e => nomatch e)
          have hnw : Blk W3 W2.heap.size #[.slice a1 ss.length e1, .slice a2 az.length e2] 91 := by rw [hW]; exact Blk.new _ _ _
          clear hW
          refine hK.out _ _ (⟨Blk.of HX0.out hb3, _, cell_later hb3 dT⟩) (fun hS2 => ?_)
          clear hK K hS
          have hS := hS2
          clear hS2
          (try simp only [Act.put, List.getElem_toArray, List.getElem_cons_zero, List.getElem_cons_succ, List.setIfInBounds_toArray, List.set_cons_zero, List.set_cons_succ])
          refine wpAnyH_ready (rs := [10]) (by as_aux_lemma => kernel_rfl) (by simp) ?_
          refine AllReadyH.cons rfl (fun K hK => ?_) AllReadyH.nil
          rw [if_pos (by rfl)]
          have hrw := RowN.below (tabOk false) HROW.out hb3
          obtain ⟨us, hus⟩ : ∃ us : List Su, W3.ownsRow lo 91 2 (.slice vt k ct) k (us.flatMap suE) := by obtain ⟨us, q1, -⟩ := hrw; exact ⟨us, q1.1.2⟩
          refine wp_appSt _ _ rfl lo _ k (us.flatMap suE) rfl hus W2.heap.size 1 (.slice a1 ss.length e1) (.slice a2 az.length e2) rfl rfl rfl (by simpa using hnw.cell 0) (by simpa using hnw.cell 1) (by omega) (by have := hb3.size; omega) ?_
          intro y3 W4 ho3 hg4
          have hsn := tab_snoc hrw oI3 oA3 hus ho3 hg4 hlD
          obtain ⟨a3, e3, rfl, -, -⟩ := RowN.shape suE_len hsn
          have bk := Blk.kept (Blk.of HBT.out hb3) hg4 (Blk.not_row (Blk.of HBT.out hb3) (by decide) hus)
          have bx := Blk.kept (Blk.of HX0.out hb3) hg4 (Blk.not_row (Blk.of HX0.out hb3) (by decide) hus)
          have br := Blk.kept (Blk.of HBR.out hb3) hg4 (Blk.not_row (Blk.of HBR.out hb3) (by decide) hus)
          have hb4 : Below w.heap.size w W4 := (HBW.out.trans (hb3.mono HBW.out.size)).grown hg4 (by have := hb3.size; have := HBW.out.size; omega) (fun j hj => by have := (World.ownsRow.lt hus j hj).1; omega)
          have x1 := bk.cell 1
          simp at x1
          refine hK.out _ _ (⟨bx, _, x1⟩) (fun hS2 => ?_)
          clear hK K hS
          have hS := hS2
          clear hS2
          (try simp only [Act.put, List.getElem_toArray, List.getElem_cons_zero, List.getElem_cons_succ, List.setIfInBounds_toArray, List.set_cons_zero, List.set_cons_succ])
          refine wpAnyH_take (i := 11) (v := (.pointer (some ⟨T, 1, none⟩))) rfl (by as_aux_lemma => kernel_rfl) (by as_aux_lemma => kernel_rfl) (by as_aux_lemma => kernel_rfl) (fun _ _ _ h => nomatch h.1) (Or.inl ⟨by kernel_rfl, ?_⟩) hS ?_
          · intro w hSw; (try dsimp only at hSw); go_simp
          simp only [Act.put, List.getElem_toArray, List.getElem_cons_zero, List.getElem_cons_succ, List.setIfInBounds_toArray, List.set_cons_zero, List.set_cons_succ]
          refine wpAnyH_ready (rs := [12]) (by as_aux_lemma => kernel_rfl) (by simp) ?_
          refine AllReadyH.cons rfl (fun K hK => ?_) AllReadyH.nil
          have xf := bk.frozen 1
          go_simp
          have bk2 := bk.set (i := 1) (.slice a3 (k + 1) e3)
          have hgs := set_grown W4 T 1 (.slice a3 (k + 1) e3)
          have hbz := hb4.grown hgs hb4.size (fun j hj => by cases hj; omega)
          have y1 := bk2.cell 1
          simp at y1
          refine hK.out _ _ (⟨Blk.kept bx hgs (by simp; omega), _, y1⟩) (fun hS2 => ?_)
          clear hK K hS
          have hS := hS2
          clear hS2
          (try simp only [Act.put, List.getElem_toArray, List.getElem_cons_zero, List.getElem_cons_succ, List.setIfInBounds_toArray, List.set_cons_zero, List.set_cons_succ])
          refine wpAnyH_done (by kernel_rfl) ?_ _
          refine ⟨rfl, .slice a1 ss.length e1, .slice a2 az.length e2, .agg #[.slice a1 ss.length e1, .slice a2 az.length e2], .slice (some ⟨W2.heap.size, 0, none⟩) 1 1, a3, e3, ?_, by simpa using bk2, Blk.kept br hgs (by simp; omega), ?_, hbz⟩
          · rfl
          · rw [HTK.out]; exact RowN.mono (tabOk false) (RowN.chg (tabOk false) hsn (Chg.one hgs) (.inr (by omega))) (Nat.le_refl _) hgs.size
        · skip
          go_simp
          refine Calls.mono (list_any (boolsA (markB ss)) (markB ss) rfl (markB_len ss) _) ?_
          rintro e W1 ⟨v1, rfl, oI1, hc1⟩
          rw [HMB.out] at oI1
          obtain ⟨a1, e1, rfl, -, -⟩ := (RowI.of oI1).shape
          have hb1 : Below D.heap.size D W1 := hb0.trans (hc1.mono hb0.size)
          replace oI1 := Own.up oI1 hb0.size
          refine hK.out _ _ (⟨Blk.of HX0.out hb1, _, cell_later hb1 dT⟩) (fun hS2 => ?_)
          clear hK K hS
          have hS := hS2
          clear hS2
          (try simp only [Act.put, List.getElem_toArray, List.getElem_cons_zero, List.getElem_cons_succ, List.setIfInBounds_toArray, List.set_cons_zero, List.set_cons_succ])
          refine wpAnyH_ready (rs := [1, 7]) (by as_aux_lemma => kernel_rfl) (by simp) ?_
          refine AllReadyH.cons rfl (fun K hK => ?_) (AllReadyH.cons rfl (fun K hK => ?_) AllReadyH.nil)
          · skip
            have k1 := cell_later hb1 dT
            go_simp
            refine hK.out _ _ (hS) (fun hS2 => ?_)
            clear hK K hS
            have hS := hS2
            clear hS2
            (try simp only [Act.put, List.getElem_toArray, List.getElem_cons_zero, List.getElem_cons_succ, List.setIfInBounds_toArray, List.set_cons_zero, List.set_cons_succ])
            clear k1
            refine wpAnyH_ready (rs := [7]) (by as_aux_lemma => kernel_rfl) (by simp) ?_
            refine AllReadyH.cons rfl (fun K hK => ?_) AllReadyH.nil
            go_simp
            refine Calls.mono (clone_any ra az.length rc az _ (hrq.below hb1) (by omega)) ?_
            rintro e W2 ⟨v2, rfl, oA2, hc2⟩
            obtain ⟨a2, e2, rfl, -, -⟩ := (RowS.of oA2).shape lineE_len
            have hb2 : Below D.heap.size D W2 := hb1.trans (hc2.mono hb1.size)
            replace oA2 := OwnR.up oA2 hb1.size
            have oI2 := oI1.below hc2
            refine hK.out _ _ (⟨Blk.of HX0.out hb2, _, cell_later hb2 dT⟩) (fun hS2 => ?_)
            clear hK K hS
            have hS := hS2
            clear hS2
            (try simp only [Act.put, List.getElem_toArray, List.getElem_cons_zero, List.getElem_cons_succ, List.setIfInBounds_toArray, List.set_cons_zero, List.set_cons_succ])
            refine wpAnyH_take (i := 8) (v := (.agg #[.slice a1 ss.length e1, .slice a2 az.length e2])) rfl (by as_aux_lemma => kernel_rfl) (by as_aux_lemma => kernel_rfl) (by as_aux_lemma => kernel_rfl) (fun _ _ _ h => nomatch h.1) (Or.inl ⟨by kernel_rfl, ?_⟩) hS ?_
            · intro w hSw; (try dsimp only at hSw); go_simp
            simp only [Act.put, List.getElem_toArray, List.getElem_cons_zero, List.getElem_cons_succ, List.setIfInBounds_toArray, List.set_cons_zero, List.set_cons_succ]
            refine wpAnyH_ready (rs := [9]) (by as_aux_lemma => kernel_rfl) (by simp) ?_
            refine AllReadyH.cons rfl (fun K hK => ?_) AllReadyH.nil
            rw [if_pos (by rfl)]
            go_simp
            obtain ⟨W3, hW⟩ : ∃ V, V = W2.alloc (.cells #[.slice a1 ss.length e1, .slice a2 az.length e2] 91) := ⟨_, rfl⟩
            rw [← hW]
            have hb3 : Below D.heap.size D W3 := by rw [hW]; exact hb2.alloc hb2.size _
            have hg3 : W2.grownBy W3 none := by rw [hW]; exact World.grownBy_alloc _ _ none
            have oI3 := oI2.kept hg3 (fun _ _ e => nomatch e)
            have oA3 := oA2.kept hg3 (fun _ _ e => nomatch e)
            have hnw : Blk W3 W2.heap.size #[.slice a1 ss.length e1, .slice a2 az.length e2] 91 := by rw [hW]; exact Blk.new _ _ _
            clear hW
            refine hK.out _ _ (⟨Blk.of HX0.out hb3, _, cell_later hb3 dT⟩) (fun hS2 => ?_)
            clear hK K hS
            have hS := hS2
            clear hS2
            (try simp only [Act.put, List.getElem_toArray, List.getElem_cons_zero, List.getElem_cons_succ, List.setIfInBounds_toArray, List.set_cons_zero, List.set_cons_succ])
            refine wpAnyH_ready (rs := [10]) (by as_aux_lemma => kernel_rfl) (by simp) ?_
            refine AllReadyH.cons rfl (fun K hK => ?_) AllReadyH.nil
            rw [if_pos (by rfl)]
            have hrw := RowN.below (tabOk false) HROW.out hb3
            obtain ⟨us, hus⟩ : ∃ us : List Su, W3.ownsRow lo 91 2 (.slice vt k ct) k (us.flatMap suE) := by obtain ⟨us, q1, -⟩ := hrw; exact ⟨us, q1.1.2⟩
            refine wp_appSt _ _ rfl lo _ k (us.flatMap suE) rfl hus W2.heap.size 1 (.slice a1 ss.length e1) (.slice a2 az.length e2) rfl rfl rfl (by simpa using hnw.cell 0) (by simpa using hnw.cell 1) (by omega) (by have := hb3.size; omega) ?_
            intro y3 W4 ho3 hg4
            have hsn := tab_snoc hrw oI3 oA3 hus ho3 hg4 hlD
            obtain ⟨a3, e3, rfl, -, -⟩ := RowN.shape suE_len hsn
            have bk := Blk.kept (Blk.of HBT.out hb3) hg4 (Blk.not_row (Blk.of HBT.out hb3) (by decide) hus)
            have bx := Blk.kept (Blk.of HX0.out hb3) hg4 (Blk.not_row (Blk.of HX0.out hb3) (by decide) hus)
            have br := Blk.kept (Blk.of HBR.out hb3) hg4 (Blk.not_row (Blk.of HBR.out hb3) (by decide) hus)
            have hb4 : Below w.heap.size w W4 := (HBW.out.trans (hb3.mono HBW.out.size)).grown hg4 (by have := hb3.size; have := HBW.out.size; omega) (fun j hj => by have := (World.ownsRow.lt hus j hj).1; omega)
            have x1 := bk.cell 1
            simp at x1
            refine hK.out _ _ (⟨bx, _, x1⟩) (fun hS2 => ?_)
            clear hK K hS
            have hS := hS2
            clear hS2
            (try simp only [Act.put, List.getElem_toArray, List.getElem_cons_zero, List.getElem_cons_succ, List.setIfInBounds_toArray, List.set_cons_zero, List.set_cons_succ])
            refine wpAnyH_take (i := 11) (v := (.pointer (some ⟨T, 1, none⟩))) rfl (by as_aux_lemma => kernel_rfl) (by as_aux_lemma => kernel_rfl) (by as_aux_lemma => kernel_rfl) (fun _ _ _ h => nomatch h.1) (Or.inl ⟨by kernel_rfl, ?_⟩) hS ?_
            · intro w hSw; (try dsimp only at hSw); go_simp
            simp only [Act.put, List.getElem_toArray, List.getElem_cons_zero, List.getElem_cons_succ, List.setIfInBounds_toArray, List.set_cons_zero, List.set_cons_succ]
            refine wpAnyH_ready (rs := [12]) (by as_aux_lemma => kernel_rfl) (by simp) ?_
            refine AllReadyH.cons rfl (fun K hK => ?_) AllReadyH.nil
            have xf := bk.frozen 1
            go_simp
            have bk2 := bk.set (i := 1) (.slice a3 (k + 1) e3)
            have hgs := set_grown W4 T 1 (.slice a3 (k + 1) e3)
            have hbz := hb4.grown hgs hb4.size (fun j hj => by cases hj; omega)
            have y1 := bk2.cell 1
            simp at y1
            refine hK.out _ _ (⟨Blk.kept bx hgs (by simp; omega), _, y1⟩) (fun hS2 => ?_)
            clear hK K hS
            have hS := hS2
            clear hS2
            (try simp only [Act.put, List.getElem_toArray, List.getElem_cons_zero, List.getElem_cons_succ, List.setIfInBounds_toArray, List.set_cons_zero, List.set_cons_succ])
            refine wpAnyH_done (by kernel_rfl) ?_ _
            refine ⟨rfl, .slice a1 ss.length e1, .slice a2 az.length e2, .agg #[.slice a1 ss.length e1, .slice a2 az.length e2], .slice (some ⟨W2.heap.size, 0, none⟩) 1 1, a3, e3, ?_, by simpa using bk2, Blk.kept br hgs (by simp; omega), ?_, hbz⟩
            · rfl
            · rw [HTK.out]; exact RowN.mono (tabOk false) (RowN.chg (tabOk false) hsn (Chg.one hgs) (.inr (by omega))) (Nat.le_refl _) hgs.size
          · skip
            go_simp
            refine Calls.mono (clone_any ra az.length rc az _ (hrq.below hb1) (by omega)) ?_
            rintro e W2 ⟨v2, rfl, oA2, hc2⟩
            obtain ⟨a2, e2, rfl, -, -⟩ := (RowS.of oA2).shape lineE_len
            have hb2 : Below D.heap.size D W2 := hb1.trans (hc2.mono hb1.size)
            replace oA2 := OwnR.up oA2 hb1.size
            have oI2 := oI1.below hc2
            refine hK.out _ _ (⟨Blk.of HX0.out hb2, _, cell_later hb2 dT⟩) (fun hS2 => ?_)
            clear hK K hS
            have hS := hS2
            clear hS2
            (try simp only [Act.put, List.getElem_toArray, List.getElem_cons_zero, List.getElem_cons_succ, List.setIfInBounds_toArray, List.set_cons_zero, List.set_cons_succ])
            refine wpAnyH_take (i := 8) (v := (.agg #[.slice a1 ss.length e1, .slice a2 az.length e2])) rfl (by as_aux_lemma => kernel_rfl) (by as_aux_lemma => kernel_rfl) (by as_aux_lemma => kernel_rfl) (fun _ _ _ h => nomatch h.1) (Or.inl ⟨by kernel_rfl, ?_⟩) hS ?_
            · intro w hSw; (try dsimp only at hSw); go_simp
            simp only [Act.put, List.getElem_toArray, List.getElem_cons_zero, List.getElem_cons_succ, List.setIfInBounds_toArray, List.set_cons_zero, List.set_cons_succ]
            refine wpAnyH_ready (rs := [1, 9]) (by as_aux_lemma => kernel_rfl) (by simp) ?_
            refine AllReadyH.cons rfl (fun K hK => ?_) (AllReadyH.cons rfl (fun K hK => ?_) AllReadyH.nil)
            · skip
              have k1 := cell_later hb2 dT
              go_simp
              refine hK.out _ _ (hS) (fun hS2 => ?_)
              clear hK K hS
              have hS := hS2
              clear hS2
              (try simp only [Act.put, List.getElem_toArray, List.getElem_cons_zero, List.getElem_cons_succ, List.setIfInBounds_toArray, List.set_cons_zero, List.set_cons_succ])
              clear k1
              refine wpAnyH_ready (rs := [9]) (by as_aux_lemma => kernel_rfl) (by simp) ?_
              refine AllReadyH.cons rfl (fun K hK => ?_) AllReadyH.nil
              rw [if_pos (by rfl)]
              go_simp
              obtain ⟨W3, hW⟩ : ∃ V, V = W2.alloc (.cells #[.slice a1 ss.length e1, .slice a2 az.length e2] 91) := ⟨_, rfl⟩
              rw [← hW]
              have hb3 : Below D.heap.size D W3 := by rw [hW]; exact hb2.alloc hb2.size _
              have hg3 : W2.grownBy W3 none := by rw [hW]; exact World.grownBy_alloc _ _ none
              have oI3 := oI2.kept hg3 (fun _ _ e => nomatch e)
              have oA3 := oA2.kept hg3 (fun _ _ e => nomatch e)
              have hnw : Blk W3 W2.heap.size #[.slice a1 ss.length e1, .slice a2 az.length e2] 91 := by rw [hW]; exact Blk.new _ _ _
              clear hW
              refine hK.out _ _ (⟨Blk.of HX0.out hb3, _, cell_later hb3 dT⟩) (fun hS2 => ?_)
              clear hK K hS
              have hS := hS2
              clear hS2
              (try simp only [Act.put, List.getElem_toArray, List.getElem_cons_zero, List.getElem_cons_succ, List.setIfInBounds_toArray, List.set_cons_zero, List.set_cons_succ])
              refine wpAnyH_ready (rs := [10]) (by as_aux_lemma => kernel_rfl) (by simp) ?_
              refine AllReadyH.cons rfl (fun K hK => ?_) AllReadyH.nil
              rw [if_pos (by rfl)]
              have hrw := RowN.below (tabOk false) HROW.out hb3
              obtain ⟨us, hus⟩ : ∃ us : List Su, W3.ownsRow lo 91 2 (.slice vt k ct) k (us.flatMap suE) := by obtain ⟨us, q1, -⟩ := hrw; exact ⟨us, q1.1.2⟩
              refine wp_appSt _ _ rfl lo _ k (us.flatMap suE) rfl hus W2.heap.size 1 (.slice a1 ss.length e1) (.slice a2 az.length e2) rfl rfl rfl (by simpa using hnw.cell 0) (by simpa using hnw.cell 1) (by omega) (by have := hb3.size; omega) ?_
              intro y3 W4 ho3 hg4
              have hsn := tab_snoc hrw oI3 oA3 hus ho3 hg4 hlD
              obtain ⟨a3, e3, rfl, -, -⟩ := RowN.shape suE_len hsn
              have bk := Blk.kept (Blk.of HBT.out hb3) hg4 (Blk.not_row (Blk.of HBT.out hb3) (by decide) hus)
              have bx := Blk.kept (Blk.of HX0.out hb3) hg4 (Blk.not_row (Blk.of HX0.out hb3) (by decide) hus)
              have br := Blk.kept (Blk.of HBR.out hb3) hg4 (Blk.not_row (Blk.of HBR.out hb3) (by decide) hus)
              have hb4 : Below w.heap.size w W4 := (HBW.out.trans (hb3.mono HBW.out.size)).grown hg4 (by have := hb3.size; have := HBW.out.size; omega) (fun j hj => by have := (World.ownsRow.lt hus j hj).1; omega)
              have x1 := bk.cell 1
              simp at x1
              refine hK.out _ _ (⟨bx, _, x1⟩) (fun hS2 => ?_)
              clear hK K hS
              have hS := hS2
              clear hS2
              (try simp only [Act.put, List.getElem_toArray, List.getElem_cons_zero, List.getElem_cons_succ, List.setIfInBounds_toArray, List.set_cons_zero, List.set_cons_succ])
              refine wpAnyH_take (i := 11) (v := (.pointer (some ⟨T, 1, none⟩))) rfl (by as_aux_lemma => kernel_rfl) (by as_aux_lemma => kernel_rfl) (by as_aux_lemma => kernel_rfl) (fun _ _ _ h => nomatch h.1) (Or.inl ⟨by kernel_rfl, ?_⟩) hS ?_
              · intro w hSw; (try dsimp only at hSw); go_simp
              simp only [Act.put, List.getElem_toArray, List.getElem_cons_zero, List.getElem_cons_succ, List.setIfInBounds_toArray, List.set_cons_zero, List.set_cons_succ]
              refine wpAnyH_ready (rs := [12]) (by as_aux_lemma => kernel_rfl) (by simp) ?_
              refine AllReadyH.cons rfl (fun K hK => ?_) AllReadyH.nil
              have xf := bk.frozen 1
              go_simp
              have bk2 := bk.set (i := 1) (.slice a3 (k + 1) e3)
              have hgs := set_grown W4 T 1 (.slice a3 (k + 1) e3)
              have hbz := hb4.grown hgs hb4.size (fun j hj => by cases hj; omega)
              have y1 := bk2.cell 1
              simp at y1
              refine hK.out _ _ (⟨Blk.kept bx hgs (by simp; omega), _, y1⟩) (fun hS2 => ?_)
              clear hK K hS
              have hS := hS2
              clear hS2
              (try simp only [Act.put, List.getElem_toArray, List.getElem_cons_zero, List.getElem_cons_succ, List.setIfInBounds_toArray, List.set_cons_zero, List.set_cons_succ])
              refine wpAnyH_done (by kernel_rfl) ?_ _
              refine ⟨rfl, .slice a1 ss.length e1, .slice a2 az.length e2, .agg #[.slice a1 ss.length e1, .slice a2 az.length e2], .slice (some ⟨W2.heap.size, 0, none⟩) 1 1, a3, e3, ?_, by simpa using bk2, Blk.kept br hgs (by simp; omega), ?_, hbz⟩
              · rfl
              · rw [HTK.out]; exact RowN.mono (tabOk false) (RowN.chg (tabOk false) hsn (Chg.one hgs) (.inr (by omega))) (Nat.le_refl _) hgs.size
            · skip
              rw [if_pos (by rfl)]
              go_simp
              obtain ⟨W3, hW⟩ : ∃ V, V = W2.alloc (.cells #[.slice a1 ss.length e1, .slice a2 az.length e2] 91) := ⟨_, rfl⟩
              rw [← hW]
              have hb3 : Below D.heap.size D W3 := by rw [hW]; exact hb2.alloc hb2.size _
              have hg3 : W2.grownBy W3 none := by rw [hW]; exact World.grownBy_alloc _ _ none
              have oI3 := oI2.kept hg3 (fun _ _ e => nomatch e)
              have oA3 := oA2.kept hg3 (fun _ _ e => nomatch e)
              have hnw : Blk W3 W2.heap.size #[.slice a1 ss.length e1, .slice a2 az.length e2] 91 := by rw [hW]; exact Blk.new _ _ _
              clear hW
              refine hK.out _ _ (⟨Blk.of HX0.out hb3, _, cell_later hb3 dT⟩) (fun hS2 => ?_)
              clear hK K hS
              have hS := hS2
              clear hS2
              (try simp only [Act.put, List.getElem_toArray, List.getElem_cons_zero, List.getElem_cons_succ, List.setIfInBounds_toArray, List.set_cons_zero, List.set_cons_succ])
              refine wpAnyH_ready (rs := [1]) (by as_aux_lemma => kernel_rfl) (by simp) ?_
              refine AllReadyH.cons rfl (fun K hK => ?_) AllReadyH.nil
              have k1 := cell_later hb3 dT
              go_simp
              refine hK.out _ _ (hS) (fun hS2 => ?_)
              clear hK K hS
              have hS := hS2
              clear hS2
              (try simp only [Act.put, List.getElem_toArray, List.getElem_cons_zero, List.getElem_cons_succ, List.setIfInBounds_toArray, List.set_cons_zero, List.set_cons_succ])
              clear k1
              refine wpAnyH_ready (rs := [10]) (by as_aux_lemma => kernel_rfl) (by simp) ?_
              refine AllReadyH.cons rfl (fun K hK => ?_) AllReadyH.nil
              rw [if_pos (by rfl)]
              have hrw := RowN.below (tabOk false) HROW.out hb3
              obtain ⟨us, hus⟩ : ∃ us : List Su, W3.ownsRow lo 91 2 (.slice vt k ct) k (us.flatMap suE) := by obtain ⟨us, q1, -⟩ := hrw; exact ⟨us, q1.1.2⟩
              refine wp_appSt _ _ rfl lo _ k (us.flatMap suE) rfl hus W2.heap.size 1 (.slice a1 ss.length e1) (.slice a2 az.length e2) rfl rfl rfl (by simpa using hnw.cell 0) (by simpa using hnw.cell 1) (by omega) (by have := hb3.size; omega) ?_
              intro y3 W4 ho3 hg4
              have hsn := tab_snoc hrw oI3 oA3 hus ho3 hg4 hlD
              obtain ⟨a3, e3, rfl, -, -⟩ := RowN.shape suE_len hsn
              have bk := Blk.kept (Blk.of HBT.out hb3) hg4 (Blk.not_row (Blk.of HBT.out hb3) (by decide) hus)
              have bx := Blk.kept (Blk.of HX0.out hb3) hg4 (Blk.not_row (Blk.of HX0.out hb3) (by decide) hus)
              have br := Blk.kept (Blk.of HBR.out hb3) hg4 (Blk.not_row (Blk.of HBR.out hb3) (by decide) hus)
              have hb4 : Below w.heap.size w W4 := (HBW.out.trans (hb3.mono HBW.out.size)).grown hg4 (by have := hb3.size; have := HBW.out.size; omega) (fun j hj => by have := (World.ownsRow.lt hus j hj).1; omega)
              have x1 := bk.cell 1
              simp at x1
              refine hK.out _ _ (⟨bx, _, x1⟩) (fun hS2 => ?_)
              clear hK K hS
              have hS := hS2
              clear hS2
              (try simp only [Act.put, List.getElem_toArray, List.getElem_cons_zero, List.getElem_cons_succ, List.setIfInBounds_toArray, List.set_cons_zero, List.set_cons_succ])
              refine wpAnyH_take (i := 11) (v := (.pointer (some ⟨T, 1, none⟩))) rfl (by as_aux_lemma => kernel_rfl) (by as_aux_lemma => kernel_rfl) (by as_aux_lemma => kernel_rfl) (fun _ _ _ h => nomatch h.1) (Or.inl ⟨by kernel_rfl, ?_⟩) hS ?_
              · intro w hSw; (try dsimp only at hSw); go_simp
              simp only [Act.put, List.getElem_toArray, List.getElem_cons_zero, List.getElem_cons_succ, List.setIfInBounds_toArray, List.set_cons_zero, List.set_cons_succ]
              refine wpAnyH_ready (rs := [12]) (by as_aux_lemma => kernel_rfl) (by simp) ?_
              refine AllReadyH.cons rfl (fun K hK => ?_) AllReadyH.nil
              have xf := bk.frozen 1
              go_simp
              have bk2 := bk.set (i := 1) (.slice a3 (k + 1) e3)
              have hgs := set_grown W4 T 1 (.slice a3 (k + 1) e3)
              have hbz := hb4.grown hgs hb4.size (fun j hj => by cases hj; omega)
              have y1 := bk2.cell 1
              simp at y1
              refine hK.out _ _ (⟨Blk.kept bx hgs (by simp; omega), _, y1⟩) (fun hS2 => ?_)
              clear hK K hS
              have hS := hS2
              clear hS2
              (try simp only [Act.put, List.getElem_toArray, List.getElem_cons_zero, List.getElem_cons_succ, List.setIfInBounds_toArray, List.set_cons_zero, List.set_cons_succ])
              refine wpAnyH_done (by kernel_rfl) ?_ _
              refine ⟨rfl, .slice a1 ss.length e1, .slice a2 az.length e2, .agg #[.slice a1 ss.length e1, .slice a2 az.length e2], .slice (some ⟨W2.heap.size, 0, none⟩) 1 1, a3, e3, ?_, by simpa using bk2, Blk.kept br hgs (by simp; omega), ?_, hbz⟩
              · rfl
              · rw [HTK.out]; exact RowN.mono (tabOk false) (RowN.chg (tabOk false) hsn (Chg.one hgs) (.inr (by omega))) (Nat.le_refl _) hgs.size

      · rintro a' w5 ⟨z24, z27, z28, z29, a3, e3, rfl, hb5, hr5, hw5, hbl5⟩
        have H1 := hid hb5
        have H3 := hid hr5
        have H4 := hid hw5
        have H5 := hid hbl5
        clear hb5 hr5 hw5 hbl5 HBX HD3
        simp only [Act.put, List.getElem_toArray, List.getElem_cons_zero, List.getElem_cons_succ, List.setIfInBounds_toArray, List.set_cons_zero, List.set_cons_succ]
        go_wp2
        go_roundw
        case rel => exact ⟨k + 1, a3, e3, by omega, by go_num, H3, H1, H4, by rw [show R = w.heap.size by omega]; exact H5⟩
        case measure => simp [intOf]; omega
    · obtain rfl : k = n := by omega
      have HRW := hid hrow.out
      have HB := hid hbw
      have hRz : R < wr.heap.size := hbr.out.lt
      clear hrow hbw
      go_wp2
      refine bodyPost_ret (v := .agg #[.int .i64 z, .slice vt _ ct]) (by simp [results, Tryz.results36, go_sem, g3, g4, gf0, gf1]) rfl ⟨vt, ct, rfl, ?_, ?_⟩
      · have h1 := RowN.chg (tabOk false) (RowN.chg (tabOk false) HRW.out (Chg.one (set_grown wr R 0 (.int .i64 z))) (.inr (by omega))) (Chg.one (set_grown (wr.setCell ⟨R, 0, none⟩ (.int .i64 z)) R 1 (.slice vt k ct))) (.inr (by omega))
        have hz := (set_grown (wr.setCell ⟨R, 0, none⟩ (.int .i64 z)) R 1 (.slice vt k ct)).size
        have hz0 := (set_grown wr R 0 (.int .i64 z)).size
        rw [List.take_of_length_le (Nat.le_of_eq HLN.out)] at h1
        exact RowN.mono (tabOk false) h1 (by omega) (by omega)
      · exact (HB.out.setCell (by show w.heap.size ≤ R; omega) _).setCell (by show w.heap.size ≤ R; omega) _
end Go.Proofs.YtlemdjgpkmjihaaGreat
