/-
  Mem3, Mem4, Mem5 in one text.
-/
import Derived.Deep.RegionHeld3
import Derived.Test.YtlemdjgpkmjihaaGreatMemA
import Derived.Test.YtlemdjgpkmjihaaGreatJoin
import Derived.Test.YtlemdjgpkmjihaaGreatTab2
namespace Go.Proofs.YtlemdjgpkmjihaaGreat
open Go.RowKit
set_option linter.unusedVariables false
set_option linter.unusedSimpArgs false

theorem exec_load_row {P : Program} {ρ : Operand → Value} {o : Oper} {w : World} (ty : TypeId) (x : Operand) (ho : o.op = .load ty x) (g : Nat) (hx : ρ x = .pointer (some ⟨g, 0, none⟩)) (t : TypeId) (cs : Array Value) (d : TypeDesc) (hg : Blk w g cs t)
    (hu : P.underlying ty = some d) (hd : (match d with | .struct _ | .array _ _ => true | _ => false) = true) (hi : (P.info? ty).map (·.size) = some cs.size) : (execOp ρ o).run P w = .ok (.value (.agg cs)) w := by
  unfold execOp
  simp only [ho, hx, Instr.loadAt, Instr.sureAddr, Sem.run_bind, Sem.run_pure, Result.andThen_ok, run_loadVar_row w g t ty cs (0, 0) d hg hu hd hi]

theorem exec_load_at {P : Program} {ρ : Operand → Value} {o : Oper} {w : World} (ty : TypeId) (x : Operand) (ho : o.op = .load ty x) (g off : Nat) (hx : ρ x = .pointer (some ⟨g, off, none⟩)) (cs : List Value) (d : TypeDesc) (hc : ∀ j v, cs[j]? = some v → w.cell? ⟨g, off + j, none⟩ = some v)
    (hu : P.underlying ty = some d) (hd : (match d with | .struct _ | .array _ _ => true | _ => false) = true) (hi : (P.info? ty).map (·.size) = some cs.length) : (execOp ρ o).run P w = .ok (.value (.agg cs.toArray)) w := by
  unfold execOp
  simp only [ho, hx, Instr.loadAt, Instr.sureAddr, Sem.run_bind, Sem.run_pure, Result.andThen_ok, run_loadVar_at w g off ty cs d hc hu hd hi]

/-- The set within a state's box. -/
theorem mtC_set {w : World} {g : Nat} {S : List Bool} {v : Value} {t : TypeId} (h : Blk w g (mtC S v).toArray t) : ∀ j u, (S.map Value.bool)[j]? = some u → w.cell? ⟨g, 0 + j, none⟩ = some u := by
  intro j u hu
  rw [Nat.zero_add, h.cell]
  have hj := (List.getElem?_eq_some_iff.1 hu).1
  rw [List.getElem?_toArray, mtC, List.getElem?_append_left hj]
  exact hu

theorem sizeS {S : List Bool} (h : S.length = 80) : (Tryz.prog.info? 111).map (·.size) = some (S.map Value.bool).length := by
  have := size80 (size_set80 h)
  rw [this]
  simp [boolsA]

theorem ownsRow_shape {w : World} {base : Nat} {e : TypeId} {size n : Nat} {v : Value} {xs : List Value} (h : w.ownsRow base e size v n xs) : ∃ a c, v = .slice a n c := by
  rcases h.2 with ⟨rfl, rfl⟩ | ⟨g, cap, cur, rfl, _⟩
  · exact ⟨_, _, rfl⟩
  · exact ⟨_, _, rfl⟩

theorem wp_mapS {o : Oper} {a : Act} {w w' : World} {K : Act → World → Prop} {Q : Exit → Act → World → Prop} (x y z : Operand) (ho : o.op = .mapUpdate 105 x y z) (hd : o.dst = none) (m k v : Value) (hx : a.eval x = m) (hy : a.eval y = k) (hz : a.eval z = v)
    (hr : (Instr.mapUpdate 105 m k v).run Tryz.prog w = .ok () w') (h : K a w') : o.wp Tryz.prog a w K Q := by
  unfold Oper.wp execOp
  simp only [ho, hx, hy, hz, Sem.run_bind, hr, Result.andThen_ok, Sem.run_pure]
  simpa [Oper.upon, hd, Act.put] using h

set_option maxHeartbeats 3200000 in
set_option maxRecDepth 20000 in
theorem put_any (W0 w : World) (B b q : Nat) (z : Int) (pv v : Value) (ms : List Mt) (E : List Es) (h : Mem W0 w B b q z pv v ms E) (u : Mu) (x : Mt) (hu : u.2.2 = none) (hel : ∀ w', MtEl W0 w' W0.heap.size w'.heap.size u x) (hn : ms.length ≤ 1000000) (hnew : ∀ e ∈ E, e.st ≠ u.1.1) :
    Calls Tryz.prog 60 #[.pointer (some ⟨B, 0, none⟩), .agg (muE u).toArray] w fun r w' => r = .returned (.int .i64 (ms.length : Int)) ∧ ∃ v', Mem W0 w' B b q z pv v' (ms ++ [x]) (E ++ [⟨u.1.1, (ms.length : Int)⟩]) ∧ ∀ k cs' t, Blk w k cs' t → t ≠ 115 → k ≠ B → Blk w' k cs' t := by
  obtain ⟨va, vc, rfl, -, -⟩ := RowN.shape muE_len h.rows
  obtain ⟨M, hM⟩ : ∃ M, M = muE u := ⟨_, rfl⟩
  have HML : Hid (M.length = 81) := by rw [hM]; exact muE_len u
  have HMO : Hid (∀ y ∈ M, y.oneCell' = true) := by
    rw [hM]
    have hone : u.2.1.oneCell' = true := by
      rcases (hel w).2 with ⟨_, a, e, _⟩ | hs
      · rw [e]; rfl
      · obtain ⟨a, c, e, _⟩ := SubV.shape hs
        rw [e]; rfl
    have : ∀ y ∈ muE u, y.oneCell' = true := by
      intro y hy
      unfold muE mtC at hy
      rcases List.mem_append.1 hy with hy | hy
      · obtain ⟨c, _, rfl⟩ := List.mem_map.1 hy; rfl
      · simp at hy; rw [hy]; exact hone
    exact this
  rw [← hM]
  have HMU := hid hM
  have HEL := hid hel
  have HNW := hid hnew
  obtain ⟨f0, f1, U81, -, -⟩ := under81
  have HM0 := hid (h.later ((Below.refl w.heap.size w).alloc (Nat.le_refl _) (.cells M.toArray 115)))
  have HX0 := hid (Blk.new w M.toArray 115)
  have hbX : w.heap.size ≠ B := by have := h.blk.lt; omega
  have HXV : Hid (∀ j, (Value.slice va ms.length vc).ownBlock = some j → j < w.heap.size) := by obtain ⟨us, k1, -⟩ := h.rows; exact fun j hj => (k1.1.lt j hj).2
  clear h hM hel hnew
  obtain ⟨W1, hW1⟩ : ∃ W1, W1 = w.alloc (.cells M.toArray 115) := ⟨_, rfl⟩
  have HAW : Hid (∀ k cs' t, Blk w k cs' t → Blk W1 k cs' t) := by rw [hW1]; exact hid (fun k cs' t hk => hk.alloc _)
  rw [← hW1] at HM0 HX0
  generalize hXX : w.heap.size = X at *
  have c1 : W1.cell? ⟨B, 1, none⟩ = some (.slice va ms.length vc) := by have := HM0.out.blk.cell 1; simpa using this
  have HM1 : Hid (Mem W0 W1.drew B b q z pv (.slice va ms.length vc) ms E) := HM0.out.later (Below.refl _ _).drew
  have HX1 : Hid (Blk W1.drew X M.toArray 115) := HX0.out
  go_enter Tryz.func60, Tryz.ntmps60
  have c0 := c1
  rw [hW1] at c0
  go_wp2_with fail
  rw [← hW1]
  clear c0 hW1 hXX
  refine region_join (fun a a' w' => ∃ (g : Nat) (v' : Value), a' = ((((((((((a.put (some 11) (.pointer (some ⟨B, 0, none⟩))).put (some 12) (.pointer (some ⟨B, 0, none⟩))).put (some 13) (.pointer (some ⟨B, 0, none⟩))).put (some 14) (.pointer (some ⟨B, 1, none⟩))).put (some 15) (.slice va ms.length vc)).put (some 16) (.agg M.toArray)).put (some 17) (.slice (some ⟨g, 0, none⟩) 1 1)).put (some 18) v').put (some 19) (.pointer (some ⟨B, 0, none⟩))).put (some 20) (.pointer (some ⟨B, 1, none⟩))) ∧ Mem W0 w' B b q z pv v' (ms ++ [x]) E ∧ Blk w' X M.toArray 115 ∧ ∀ k cs' t, Blk W1 k cs' t → t ≠ 115 → k ≠ B → Blk w' k cs' t) ?_ ?_
  · refine wp_region_held_drew (S := fun w' => Blk w' X M.toArray 115) (by kernel_rfl) (by exact HX1.out) (fun hS => ?_)
    have c1d : W1.drew.cell? ⟨B, 1, none⟩ = some (.slice va ms.length vc) := c1
    refine wpAnyH_take (i := 0) (v := (.pointer (some ⟨B, 0, none⟩))) rfl (by as_aux_lemma => kernel_rfl) (by as_aux_lemma => kernel_rfl) (by as_aux_lemma => kernel_rfl) (fun _ _ _ h => nomatch h.1) (Or.inl ⟨by kernel_rfl, ?_⟩) hS ?_
    · intro w hSw; (try dsimp only at hSw); go_simp
    (try simp only [Act.put, List.getElem_toArray, List.getElem_cons_zero, List.getElem_cons_succ, List.setIfInBounds_toArray, List.set_cons_zero, List.set_cons_succ])
    refine wpAnyH_take (i := 1) (v := (.pointer (some ⟨B, 0, none⟩))) rfl (by as_aux_lemma => kernel_rfl) (by as_aux_lemma => kernel_rfl) (by as_aux_lemma => kernel_rfl) (fun _ _ _ h => nomatch h.1) (Or.inl ⟨by kernel_rfl, ?_⟩) hS ?_
    · intro w hSw; (try dsimp only at hSw); go_simp
    (try simp only [Act.put, List.getElem_toArray, List.getElem_cons_zero, List.getElem_cons_succ, List.setIfInBounds_toArray, List.set_cons_zero, List.set_cons_succ])
    refine wpAnyH_take (i := 2) (v := (.pointer (some ⟨B, 0, none⟩))) rfl (by as_aux_lemma => kernel_rfl) (by as_aux_lemma => kernel_rfl) (by as_aux_lemma => kernel_rfl) (fun _ _ _ h => nomatch h.1) (Or.inl ⟨by kernel_rfl, ?_⟩) hS ?_
    · intro w hSw; (try dsimp only at hSw); go_simp
    (try simp only [Act.put, List.getElem_toArray, List.getElem_cons_zero, List.getElem_cons_succ, List.setIfInBounds_toArray, List.set_cons_zero, List.set_cons_succ])
    refine wpAnyH_take (i := 3) (v := (.pointer (some ⟨B, 1, none⟩))) rfl (by as_aux_lemma => kernel_rfl) (by as_aux_lemma => kernel_rfl) (by as_aux_lemma => kernel_rfl) (fun _ _ _ h => nomatch h.1) (Or.inl ⟨by kernel_rfl, ?_⟩) hS ?_
    · intro w hSw; (try dsimp only at hSw); go_simp
    (try simp only [Act.put, List.getElem_toArray, List.getElem_cons_zero, List.getElem_cons_succ, List.setIfInBounds_toArray, List.set_cons_zero, List.set_cons_succ])
    refine wpAnyH_take (i := 5) (v := (.agg M.toArray)) rfl (by as_aux_lemma => kernel_rfl) (by as_aux_lemma => kernel_rfl) (by as_aux_lemma => kernel_rfl) (fun _ _ _ h => nomatch h.1) (Or.inl ⟨by kernel_rfl, ?_⟩) hS ?_
    · intro w hSw; (try dsimp only at hSw); exact exec_load_row 115 _ rfl X rfl 115 M.toArray _ hSw U81 rfl (by simpa using size81 HML.out)
    (try simp only [Act.put, List.getElem_toArray, List.getElem_cons_zero, List.getElem_cons_succ, List.setIfInBounds_toArray, List.set_cons_zero, List.set_cons_succ])
    refine wpAnyH_ready (rs := [4, 6]) (by as_aux_lemma => kernel_rfl) (by simp) ?_
    refine AllReadyH.cons rfl (fun K hK => ?_) (AllReadyH.cons rfl (fun K hK => ?_) AllReadyH.nil)
    · go_simp
      refine hK.out _ _ (hS) (fun hS2 => ?_)
      clear hK K hS
      have hS := hS2
      clear hS2
      (try simp only [Act.put, List.getElem_toArray, List.getElem_cons_zero, List.getElem_cons_succ, List.setIfInBounds_toArray, List.set_cons_zero, List.set_cons_succ])
      refine wpAnyH_ready (rs := [6]) (by as_aux_lemma => kernel_rfl) (by simp) ?_
      refine AllReadyH.cons rfl (fun K hK => ?_) AllReadyH.nil
      rw [if_pos (by rfl)]
      refine wp_slice81 M HML.out _ rfl rfl ?_
      have hba := (Below.refl W1.drew.heap.size W1.drew).alloc (Nat.le_refl _) (.cells M.toArray 115)
      refine hK.out _ _ (Blk.below hS hba) (fun hS2 => ?_)
      clear hK K hS
      have hS := hS2
      clear hS2
      (try simp only [Act.put, List.getElem_toArray, List.getElem_cons_zero, List.getElem_cons_succ, List.setIfInBounds_toArray, List.set_cons_zero, List.set_cons_succ])
      have HC2 := hid (Blk.new W1.drew M.toArray 115)
      have HM2 := hid (HM1.out.later hba)
      have HBA := hid hba
      obtain ⟨W2, hW2⟩ : ∃ W2, W2 = W1.drew.alloc (.cells M.toArray 115) := ⟨_, rfl⟩
      rw [← hW2] at HC2 HM2 HBA hS ⊢
      have c1 : W2.cell? ⟨B, 1, none⟩ = some (.slice va ms.length vc) := by have := HM2.out.blk.cell 1; simpa using this
      clear hba hW2
      refine wpAnyH_ready (rs := [7]) (by as_aux_lemma => kernel_rfl) (by simp) ?_
      refine AllReadyH.cons rfl (fun K hK => ?_) AllReadyH.nil
      rw [if_pos (by rfl)]
      obtain ⟨cs, hcs, happ⟩ := HM2.out.append
      have HAP := hid happ
      clear happ
      refine wp_app81 _ _ rfl W0.heap.size (.slice va ms.length vc) ms.length cs rfl hcs W1.drew.heap.size 1 M HML.out HMO.out rfl (fun f u hu => by have := HC2.out.cell f; rw [this]; simpa using hu) hn HM2.out.below.size ?_
      intro v' w4 h4 hg4
      obtain ⟨va', vc', rfl⟩ := ownsRow_shape h4
      obtain ⟨g1, g2, g3, g4, g5⟩ := HAP.out u x w4 (.slice va' (ms.length + 1) vc') hu (HEL.out W2) (by rw [HMU.out] at h4; exact h4) hg4
      have HG4 := hid g4
      have HG5 := hid g5
      have HX4 := hid (Blk.kept hS hg4 (fun e => by have := HXV.out X e.symm; omega))
      refine hK.out _ _ (HX4.out) (fun hS2 => ?_)
      clear hK K hS
      have hS := hS2
      clear hS2
      (try simp only [Act.put, List.getElem_toArray, List.getElem_cons_zero, List.getElem_cons_succ, List.setIfInBounds_toArray, List.set_cons_zero, List.set_cons_succ])
      clear h4 hg4 g3 g4 g5 HAP hcs
      refine wpAnyH_take (i := 8) (v := (.pointer (some ⟨B, 0, none⟩))) rfl (by as_aux_lemma => kernel_rfl) (by as_aux_lemma => kernel_rfl) (by as_aux_lemma => kernel_rfl) (fun _ _ _ h => nomatch h.1) (Or.inl ⟨by kernel_rfl, ?_⟩) hS ?_
      · intro w hSw; (try dsimp only at hSw); go_simp
      (try simp only [Act.put, List.getElem_toArray, List.getElem_cons_zero, List.getElem_cons_succ, List.setIfInBounds_toArray, List.set_cons_zero, List.set_cons_succ])
      refine wpAnyH_take (i := 9) (v := (.pointer (some ⟨B, 1, none⟩))) rfl (by as_aux_lemma => kernel_rfl) (by as_aux_lemma => kernel_rfl) (by as_aux_lemma => kernel_rfl) (fun _ _ _ h => nomatch h.1) (Or.inl ⟨by kernel_rfl, ?_⟩) hS ?_
      · intro w hSw; (try dsimp only at hSw); go_simp
      (try simp only [Act.put, List.getElem_toArray, List.getElem_cons_zero, List.getElem_cons_succ, List.setIfInBounds_toArray, List.set_cons_zero, List.set_cons_succ])
      refine wpAnyH_ready (rs := [10]) (by as_aux_lemma => kernel_rfl) (by simp) ?_
      refine AllReadyH.cons rfl (fun K hK => ?_) AllReadyH.nil
      go_simp
      refine hK.out _ _ (HX4.out.other hbX _) (fun hS2 => ?_)
      clear hK K hS
      have hS := hS2
      clear hS2
      (try simp only [Act.put, List.getElem_toArray, List.getElem_cons_zero, List.getElem_cons_succ, List.setIfInBounds_toArray, List.set_cons_zero, List.set_cons_succ])
      refine wpAnyH_done (by kernel_rfl) ?_ _
      refine ⟨rfl, W1.heap.size, .slice va' (ms.length + 1) vc', ?_, HG4.out, hS, fun k cs' t hk ht hkB => HG5.out k cs' t (Blk.below (W := W1.drew) hk HBA.out) ht hkB⟩
      rfl
    · rw [if_pos (by rfl)]
      refine wp_slice81 M HML.out _ rfl rfl ?_
      have hba := (Below.refl W1.drew.heap.size W1.drew).alloc (Nat.le_refl _) (.cells M.toArray 115)
      refine hK.out _ _ (Blk.below hS hba) (fun hS2 => ?_)
      clear hK K hS
      have hS := hS2
      clear hS2
      (try simp only [Act.put, List.getElem_toArray, List.getElem_cons_zero, List.getElem_cons_succ, List.setIfInBounds_toArray, List.set_cons_zero, List.set_cons_succ])
      have HC2 := hid (Blk.new W1.drew M.toArray 115)
      have HM2 := hid (HM1.out.later hba)
      have HBA := hid hba
      obtain ⟨W2, hW2⟩ : ∃ W2, W2 = W1.drew.alloc (.cells M.toArray 115) := ⟨_, rfl⟩
      rw [← hW2] at HC2 HM2 HBA hS ⊢
      have c1 : W2.cell? ⟨B, 1, none⟩ = some (.slice va ms.length vc) := by have := HM2.out.blk.cell 1; simpa using this
      clear hba hW2
      refine wpAnyH_ready (rs := [4]) (by as_aux_lemma => kernel_rfl) (by simp) ?_
      refine AllReadyH.cons rfl (fun K hK => ?_) AllReadyH.nil
      go_simp
      refine hK.out _ _ (hS) (fun hS2 => ?_)
      clear hK K hS
      have hS := hS2
      clear hS2
      (try simp only [Act.put, List.getElem_toArray, List.getElem_cons_zero, List.getElem_cons_succ, List.setIfInBounds_toArray, List.set_cons_zero, List.set_cons_succ])
      refine wpAnyH_ready (rs := [7]) (by as_aux_lemma => kernel_rfl) (by simp) ?_
      refine AllReadyH.cons rfl (fun K hK => ?_) AllReadyH.nil
      rw [if_pos (by rfl)]
      obtain ⟨cs, hcs, happ⟩ := HM2.out.append
      have HAP := hid happ
      clear happ
      refine wp_app81 _ _ rfl W0.heap.size (.slice va ms.length vc) ms.length cs rfl hcs W1.drew.heap.size 1 M HML.out HMO.out rfl (fun f u hu => by have := HC2.out.cell f; rw [this]; simpa using hu) hn HM2.out.below.size ?_
      intro v' w4 h4 hg4
      obtain ⟨va', vc', rfl⟩ := ownsRow_shape h4
      obtain ⟨g1, g2, g3, g4, g5⟩ := HAP.out u x w4 (.slice va' (ms.length + 1) vc') hu (HEL.out W2) (by rw [HMU.out] at h4; exact h4) hg4
      have HG4 := hid g4
      have HG5 := hid g5
      have HX4 := hid (Blk.kept hS hg4 (fun e => by have := HXV.out X e.symm; omega))
      refine hK.out _ _ (HX4.out) (fun hS2 => ?_)
      clear hK K hS
      have hS := hS2
      clear hS2
      (try simp only [Act.put, List.getElem_toArray, List.getElem_cons_zero, List.getElem_cons_succ, List.setIfInBounds_toArray, List.set_cons_zero, List.set_cons_succ])
      clear h4 hg4 g3 g4 g5 HAP hcs
      refine wpAnyH_take (i := 8) (v := (.pointer (some ⟨B, 0, none⟩))) rfl (by as_aux_lemma => kernel_rfl) (by as_aux_lemma => kernel_rfl) (by as_aux_lemma => kernel_rfl) (fun _ _ _ h => nomatch h.1) (Or.inl ⟨by kernel_rfl, ?_⟩) hS ?_
      · intro w hSw; (try dsimp only at hSw); go_simp
      (try simp only [Act.put, List.getElem_toArray, List.getElem_cons_zero, List.getElem_cons_succ, List.setIfInBounds_toArray, List.set_cons_zero, List.set_cons_succ])
      refine wpAnyH_take (i := 9) (v := (.pointer (some ⟨B, 1, none⟩))) rfl (by as_aux_lemma => kernel_rfl) (by as_aux_lemma => kernel_rfl) (by as_aux_lemma => kernel_rfl) (fun _ _ _ h => nomatch h.1) (Or.inl ⟨by kernel_rfl, ?_⟩) hS ?_
      · intro w hSw; (try dsimp only at hSw); go_simp
      (try simp only [Act.put, List.getElem_toArray, List.getElem_cons_zero, List.getElem_cons_succ, List.setIfInBounds_toArray, List.set_cons_zero, List.set_cons_succ])
      refine wpAnyH_ready (rs := [10]) (by as_aux_lemma => kernel_rfl) (by simp) ?_
      refine AllReadyH.cons rfl (fun K hK => ?_) AllReadyH.nil
      go_simp
      refine hK.out _ _ (HX4.out.other hbX _) (fun hS2 => ?_)
      clear hK K hS
      have hS := hS2
      clear hS2
      (try simp only [Act.put, List.getElem_toArray, List.getElem_cons_zero, List.getElem_cons_succ, List.setIfInBounds_toArray, List.set_cons_zero, List.set_cons_succ])
      refine wpAnyH_done (by kernel_rfl) ?_ _
      refine ⟨rfl, W1.heap.size, .slice va' (ms.length + 1) vc', ?_, HG4.out, hS, fun k cs' t hk ht hkB => HG5.out k cs' t (Blk.below (W := W1.drew) hk HBA.out) ht hkB⟩
      rfl
  · rintro a' w5 ⟨g, v', rfl, hm5, hx5, hf5⟩
    have HF5 := hid hf5
    have hmp : w5.drew.cell? ⟨B, 2, none⟩ = some (.map (some b)) := by have := hm5.blk.cell 2; simpa using this
    have HM5 : Hid (Mem W0 w5.drew B b q z pv v' (ms ++ [x]) E) := hid (hm5.later (Below.refl _ _).drew)
    rw [HMU.out] at hx5
    have hxs : ∀ j y, (u.1.1.map Value.bool)[j]? = some y → w5.drew.cell? ⟨X, 0 + j, none⟩ = some y := mtC_set (show Blk w5.drew X (mtC u.1.1 u.2.1).toArray 115 from hx5)
    clear hm5 hx5 hf5
    simp only [Act.put, List.getElem_toArray, List.getElem_cons_zero, List.getElem_cons_succ, List.setIfInBounds_toArray, List.set_cons_zero, List.set_cons_succ]
    go_wp2_with fail
    refine wp_region_held_drew (S := fun w' => w'.cell? ⟨B, 2, none⟩ = some (.map (some b)) ∧ ∀ j y, (u.1.1.map Value.bool)[j]? = some y → w'.cell? ⟨X, 0 + j, none⟩ = some y) (by kernel_rfl) (by exact ⟨hmp, hxs⟩) (fun hS => ?_)
    refine wpAnyH_take (i := 0) (v := (.pointer (some ⟨B, 0, none⟩))) rfl (by as_aux_lemma => kernel_rfl) (by as_aux_lemma => kernel_rfl) (by as_aux_lemma => kernel_rfl) (fun _ _ _ h => h) (Or.inl ⟨by kernel_rfl, ?_⟩) hS ?_
    · intro w hSw; (try dsimp only at hSw); go_simp
    (try simp only [Act.put, List.getElem_toArray, List.getElem_cons_zero, List.getElem_cons_succ, List.setIfInBounds_toArray, List.set_cons_zero, List.set_cons_succ])
    refine wpAnyH_take (i := 1) (v := (.pointer (some ⟨B, 0, none⟩))) rfl (by as_aux_lemma => kernel_rfl) (by as_aux_lemma => kernel_rfl) (by as_aux_lemma => kernel_rfl) (fun _ _ _ h => h) (Or.inl ⟨by kernel_rfl, ?_⟩) hS ?_
    · intro w hSw; (try dsimp only at hSw); go_simp
    (try simp only [Act.put, List.getElem_toArray, List.getElem_cons_zero, List.getElem_cons_succ, List.setIfInBounds_toArray, List.set_cons_zero, List.set_cons_succ])
    refine wpAnyH_take (i := 2) (v := (.pointer (some ⟨B, 2, none⟩))) rfl (by as_aux_lemma => kernel_rfl) (by as_aux_lemma => kernel_rfl) (by as_aux_lemma => kernel_rfl) (fun _ _ _ h => h) (Or.inl ⟨by kernel_rfl, ?_⟩) hS ?_
    · intro w hSw; (try dsimp only at hSw); go_simp
    (try simp only [Act.put, List.getElem_toArray, List.getElem_cons_zero, List.getElem_cons_succ, List.setIfInBounds_toArray, List.set_cons_zero, List.set_cons_succ])
    refine wpAnyH_take (i := 3) (v := (.map (some b))) rfl (by as_aux_lemma => kernel_rfl) (by as_aux_lemma => kernel_rfl) (by as_aux_lemma => kernel_rfl) (fun _ _ _ h => h) (Or.inl ⟨by kernel_rfl, ?_⟩) hS ?_
    · intro w hSw; (try dsimp only at hSw); have hc2 := hSw.1; go_simp
    (try simp only [Act.put, List.getElem_toArray, List.getElem_cons_zero, List.getElem_cons_succ, List.setIfInBounds_toArray, List.set_cons_zero, List.set_cons_succ])
    refine wpAnyH_take (i := 4) (v := (.pointer (some ⟨X, 0, none⟩))) rfl (by as_aux_lemma => kernel_rfl) (by as_aux_lemma => kernel_rfl) (by as_aux_lemma => kernel_rfl) (fun _ _ _ h => h) (Or.inl ⟨by kernel_rfl, ?_⟩) hS ?_
    · intro w hSw; (try dsimp only at hSw); go_simp
    (try simp only [Act.put, List.getElem_toArray, List.getElem_cons_zero, List.getElem_cons_succ, List.setIfInBounds_toArray, List.set_cons_zero, List.set_cons_succ])
    refine wpAnyH_take (i := 5) (v := (kvS u.1.1)) rfl (by as_aux_lemma => kernel_rfl) (by as_aux_lemma => kernel_rfl) (by as_aux_lemma => kernel_rfl) (fun _ _ _ h => h) (Or.inl ⟨by kernel_rfl, ?_⟩) hS ?_
    · intro w hSw; (try dsimp only at hSw); exact exec_load_at 111 _ rfl X 0 rfl (u.1.1.map Value.bool) _ hSw.2 under80 rfl (sizeS u.1.2)
    (try simp only [Act.put, List.getElem_toArray, List.getElem_cons_zero, List.getElem_cons_succ, List.setIfInBounds_toArray, List.set_cons_zero, List.set_cons_succ])
    refine wpAnyH_take (i := 6) (v := (.int .i64 (ms.length : Int))) rfl (by as_aux_lemma => kernel_rfl) (by as_aux_lemma => kernel_rfl) (by as_aux_lemma => kernel_rfl) (fun _ _ _ h => h) (Or.inl ⟨by kernel_rfl, ?_⟩) hS ?_
    · intro w hSw; (try dsimp only at hSw); go_simp
    (try simp only [Act.put, List.getElem_toArray, List.getElem_cons_zero, List.getElem_cons_succ, List.setIfInBounds_toArray, List.set_cons_zero, List.set_cons_succ])
    refine wpAnyH_ready (rs := [7]) (by as_aux_lemma => kernel_rfl) (by simp) ?_
    refine AllReadyH.cons rfl (fun K hK => ?_) AllReadyH.nil
    rw [if_pos (by rfl)]
    obtain ⟨w6, hr6, hm6, hg6⟩ := HM5.out.entry (S := u.1.1) (i := (ms.length : Int)) u.1.2 HNW.out
    have HB6 := hid hg6
    refine wp_mapS _ _ _ rfl rfl _ _ _ rfl rfl rfl hr6 ?_
    refine hK.out _ _ ⟨by have := hm6.blk.cell 2; simpa using this, ?_⟩ (fun hS6 => ?_)
    · intro j y hy
      have h0 := hS.2 j y hy
      obtain ⟨es, clock, k1, _⟩ := HM5.out.map
      by_cases hXb : X = b
      · exfalso
        subst hXb
        simp [World.cell?, k1] at h0
      · exact (World.cell?_of_block (HB6.out.block X (block_lt_of_cell h0) (by simpa using hXb))).trans h0
    clear hK K hS hS6
    refine wpAnyH_done (by kernel_rfl) ?_ _
    go_wp2
    go_ret
    refine ⟨rfl, v', hm6, fun k cs' t hk ht hkB => ?_⟩
    have h5 := HF5.out k cs' t (HAW.out k cs' t hk) ht hkB
    exact Blk.kept (W := w5.drew) h5 HB6.out (fun e => OwnP.ne_blk HM5.out.map (show Blk w5.drew k cs' t from h5) (by simpa using e.symm))
end Go.Proofs.YtlemdjgpkmjihaaGreat

namespace Go.Proofs.YtlemdjgpkmjihaaGreat
open Go.RowKit
set_option linter.unusedVariables false
set_option linter.unusedSimpArgs false

/-- The states of a table, at work. -/
def mtOf (x : St) : Mt := (⟨markB x.1, markB_len x.1⟩, x.2)
def muOf (x : St) (r : Option Addr) : Mu := (⟨markB x.1, markB_len x.1⟩, (.slice r x.2.length x.2.length, none))

theorem exec_build81 {ρ : Operand → Value} {o : Oper} {w : World} (x y : Operand) (ho : o.op = .build 115 #[(0, x), (1, y)]) (S : List Bool) (hS : S.length = 80) (v : Value) (hv : v.cells = #[v]) (hx : ρ x = .agg (boolsA S)) (hy : ρ y = v) :
    (execOp ρ o).run Tryz.prog w = .ok (.value (.agg (mtC S v).toArray)) w := by
  have hr := run_build (P := Tryz.prog) w 115 #[(0, .agg (boolsA S)), (1, v)] (mtC S v).toArray (built81 S hS v hv)
  unfold execOp
  simp only [ho, List.map_toArray, List.map_cons, List.map_nil, hx, hy, Sem.run_bind, hr, Result.andThen_ok, Sem.run_pure]

theorem ents_new {ts : List St} {k : Nat} {x : St} (hl : Lone ts) (hx : ts[k]? = some x) (hr : ∀ y ∈ ts, y.1.Pairwise (· < ·) ∧ ∀ z ∈ y.1, 0 ≤ z ∧ z < 80) : ∀ e ∈ entsFrom 0 ((ts.take k).map mtOf), e.st ≠ markB x.1 := by
  intro e he h
  have h1 : e.st ∈ (entsFrom 0 ((ts.take k).map mtOf)).map (·.st) := List.mem_map.2 ⟨e, he, rfl⟩
  rw [entsFrom_st, List.map_map] at h1
  obtain ⟨y, hy, e1⟩ := List.mem_map.1 h1
  have hyt : y ∈ ts := List.mem_of_mem_take hy
  have hxt : x ∈ ts := List.mem_of_getElem? hx
  have e2 : markB y.1 = markB x.1 := by rw [← h, ← e1]; rfl
  have e3 := (markB_eq (hr y hyt).1 (hr x hxt).1 (hr y hyt).2 (hr x hxt).2).1 e2
  exact ((lone_take hx).1 (lone_less hl)).2 (List.mem_map.2 ⟨y, hy, e3⟩)

set_option maxHeartbeats 3200000 in
set_option maxRecDepth 20000 in
theorem memoryOf_any (z : Int) (a : Option Addr) (n ca : Nat) (ts : List St) (q : Nat) (pv : Value) (W0 w : World) (ht : RdT W0 a n ts) (hbl : Below W0.heap.size W0 w) (hq : Blk w q #[pv] 34) (hq0 : W0.heap.size ≤ q) (hn : n ≤ 12) (hl : Lone ts) (hr : ∀ y ∈ ts, (y.1.Pairwise (· < ·) ∧ ∀ z ∈ y.1, 0 ≤ z ∧ z < 80) ∧ y.1.length ≤ 80 ∧ y.2.length ≤ 256) :
    Calls Tryz.prog 33 #[.agg #[.int .i64 z, .slice a n ca], stepV q] w fun e w' => ∃ B b v, e = .returned (.pointer (some ⟨B, 0, none⟩)) ∧ Mem W0 w' B b q z pv v (ts.map mtOf) (entsFrom 0 (ts.map mtOf)) ∧ W0.heap.size ≤ B := by
  have hlen := ht.len
  have HLN := hid hlen
  have HLO := hid hl
  have HR := hid hr
  have hz0 := hbl.size
  have HM0 : Hid (Mem W0 (((w.alloc (.cells #[.int .i64 z, .slice a n ca] 30)).alloc (.map #[] 0)).alloc (.cells #[.int .i64 z, .slice none 0 0, .map (some (w.heap.size + 1)), stepV q] 108)) (w.heap.size + 1 + 1) (w.heap.size + 1) q z pv (.slice none 0 0) [] []) := by
    refine hid ⟨?_, RowN.nil _ _ _, ?_, ((hq.alloc _).alloc _).alloc _, by omega, hq0, by omega, ((hbl.alloc hz0 _).alloc (by simp; omega) _).alloc (by simp; omega) _⟩
    · have := Blk.new ((w.alloc (.cells #[.int .i64 z, .slice a n ca] 30)).alloc (.map #[] 0)) #[.int .i64 z, .slice none 0 0, .map (some (w.heap.size + 1)), stepV q] 108
      rwa [World.size_alloc, World.size_alloc] at this
    · have h1 := ownP_made (w.alloc (.cells #[.int .i64 z, .slice a n ca] 30))
      rw [World.size_alloc] at h1
      exact h1.below ((Below.refl _ _).alloc (Nat.le_refl _) _)
  have hmm := @run_makeMap Tryz.prog
  clear hlen hl hr hq hbl
  go_enter Tryz.func33, Tryz.ntmps33
  go_wp2
  clear hmm
  go_loopw [17] (fun i wr => ∃ (k : Nat) (v : Value), k ≤ n ∧ i = .int .i64 k ∧ Hid (Mem W0 wr (w.heap.size + 1 + 1) (w.heap.size + 1) q z pv v ((ts.take k).map mtOf) (entsFrom 0 ((ts.take k).map mtOf)))) (fun i _ => n - (intOf i).toNat)
  case atStart => exact ⟨0, _, Nat.zero_le _, rfl, HM0⟩
  case round =>
    obtain ⟨k, v, hk, rfl, HM⟩ := hrel
    clear HM0
    generalize hBB : w.heap.size + 1 + 1 = B at *
    generalize hbb : w.heap.size + 1 = b at *
    by_cases hlt : k < n
    · obtain ⟨b1, o1, p, cp, r, cr, ss, az, rfl, hx, c0, c1, r1, r2, ⟨m1, m2⟩, m3, m4⟩ := ht.at hlt
      have hW := HM.out.below
      have d0 := cell_later hW c0
      have d1 := cell_later hW c1
      have hxm : (ss, az) ∈ ts := List.mem_of_getElem? hx
      obtain ⟨⟨q1, q2⟩, q3, q4⟩ := HR.out _ hxm
      simp only at q1 q2 q3 q4
      have htk : ts.take (k + 1) = ts.take k ++ [(ss, az)] := by
        obtain ⟨hk', e⟩ := List.getElem?_eq_some_iff.1 hx
        rw [List.take_succ_eq_append_getElem hk', e]
      have hba := ((Below.refl wr.heap.size wr).alloc (Nat.le_refl _) (.cells #[.slice p ss.length cp, .slice r az.length cr] 91)).drew
      have HM2 := hid (HM.out.later hba)
      have HR1 := hid ((r1.below hW).below hba)
      have HSL := hid (fun w' h' => setOfList_any p ss.length cp ss w' h' q2 q3)
      have HCL := hid (fun w' => clip_any r az.length cr w' m3 m4)
      have hml : ((ts.take k).map mtOf).length = k := by rw [List.length_map, List.length_take, HLN.out]; omega
      have HPT := hid (fun w' (v' : Value) h' => put_any W0 w' B b q z pv v' ((ts.take k).map mtOf) (entsFrom 0 ((ts.take k).map mtOf)) h' (muOf (ss, az) r) (mtOf (ss, az)) rfl (fun w'' => ⟨rfl, .inl ⟨rfl, r, rfl, by show az.length ≤ maxLen; unfold maxLen; omega, r2⟩⟩) (by rw [hml]; omega) (ents_new HLO.out hx (fun y hy => (HR.out y hy).1)))
      have HTK := hid htk
      have HML := hid hml
      have hS0 : ((wr.alloc (.cells #[.slice p ss.length cp, .slice r az.length cr] 91)).drew).cell? ⟨wr.heap.size, 0, none⟩ = some (.slice p ss.length cp) ∧ ((wr.alloc (.cells #[.slice p ss.length cp, .slice r az.length cr] 91)).drew).cell? ⟨wr.heap.size, 1, none⟩ = some (.slice r az.length cr) := by
        have h1 := Blk.new wr #[.slice p ss.length cp, .slice r az.length cr] 91
        exact ⟨h1.cell 0, h1.cell 1⟩
      have HD0 := hid (show Blk ((wr.alloc (.cells #[.slice p ss.length cp, .slice r az.length cr] 91)).drew) wr.heap.size #[.slice p ss.length cp, .slice r az.length cr] 91 from Blk.new wr #[.slice p ss.length cp, .slice r az.length cr] 91)
      have HDB : wr.heap.size ≠ B := by have := HM.out.blk.lt; omega
      have hlt' : (k : Int) < (n : Int) := by omega
      clear hx hxm htk m1 m2 m3 m4 hba r1 r2 hW hml q1 q2 q3 q4 c0 c1
      go_wp2
      generalize hD : wr.heap.size = D at *
      refine wp_region_held_drew (S := fun w' => w'.cell? ⟨D, 0, none⟩ = some (.slice p ss.length cp) ∧ w'.cell? ⟨D, 1, none⟩ = some (.slice r az.length cr)) (by kernel_rfl) (by exact hS0) (fun hS => ?_)
      refine wpAnyH_take (i := 0) (v := (.pointer (some ⟨B, 0, none⟩))) rfl (by as_aux_lemma => kernel_rfl) (by as_aux_lemma => kernel_rfl) (by as_aux_lemma => kernel_rfl) (fun _ _ _ h => h) (Or.inl ⟨by kernel_rfl, ?_⟩) hS ?_
      · intro w hSw; (try dsimp only at hSw); go_simp
      (try simp only [Act.put, List.getElem_toArray, List.getElem_cons_zero, List.getElem_cons_succ, List.setIfInBounds_toArray, List.set_cons_zero, List.set_cons_succ])
      refine wpAnyH_take (i := 1) (v := (.pointer (some ⟨D, 0, none⟩))) rfl (by as_aux_lemma => kernel_rfl) (by as_aux_lemma => kernel_rfl) (by as_aux_lemma => kernel_rfl) (fun _ _ _ h => h) (Or.inl ⟨by kernel_rfl, ?_⟩) hS ?_
      · intro w hSw; (try dsimp only at hSw); go_simp
      (try simp only [Act.put, List.getElem_toArray, List.getElem_cons_zero, List.getElem_cons_succ, List.setIfInBounds_toArray, List.set_cons_zero, List.set_cons_succ])
      refine wpAnyH_take (i := 2) (v := (.slice p ss.length cp)) rfl (by as_aux_lemma => kernel_rfl) (by as_aux_lemma => kernel_rfl) (by as_aux_lemma => kernel_rfl) (fun _ _ _ h => h) (Or.inl ⟨by kernel_rfl, ?_⟩) hS ?_
      · intro w hSw; (try dsimp only at hSw); have h0 := hSw.1; go_simp
      (try simp only [Act.put, List.getElem_toArray, List.getElem_cons_zero, List.getElem_cons_succ, List.setIfInBounds_toArray, List.set_cons_zero, List.set_cons_succ])
      refine wpAnyH_take (i := 4) (v := (.pointer (some ⟨D, 1, none⟩))) rfl (by as_aux_lemma => kernel_rfl) (by as_aux_lemma => kernel_rfl) (by as_aux_lemma => kernel_rfl) (fun _ _ _ h => h) (Or.inl ⟨by kernel_rfl, ?_⟩) hS ?_
      · intro w hSw; (try dsimp only at hSw); go_simp
      (try simp only [Act.put, List.getElem_toArray, List.getElem_cons_zero, List.getElem_cons_succ, List.setIfInBounds_toArray, List.set_cons_zero, List.set_cons_succ])
      refine wpAnyH_take (i := 5) (v := (.slice r az.length cr)) rfl (by as_aux_lemma => kernel_rfl) (by as_aux_lemma => kernel_rfl) (by as_aux_lemma => kernel_rfl) (fun _ _ _ h => h) (Or.inl ⟨by kernel_rfl, ?_⟩) hS ?_
      · intro w hSw; (try dsimp only at hSw); have h1 := hSw.2; go_simp
      (try simp only [Act.put, List.getElem_toArray, List.getElem_cons_zero, List.getElem_cons_succ, List.setIfInBounds_toArray, List.set_cons_zero, List.set_cons_succ])
      refine wpAnyH_ready (rs := [3]) (by as_aux_lemma => kernel_rfl) (by simp) ?_
      refine AllReadyH.cons rfl (fun K hK => ?_) AllReadyH.nil
      go_simp
      refine (HSL.out _ HR1.out).mono ?_
      rintro e w3 ⟨rfl, hb3⟩
      have HM3 := hid (HM2.out.later hb3)
      have HB3 := hid hb3
      refine hK.out _ _ (⟨cell_later hb3 hS.1, cell_later hb3 hS.2⟩) (fun hS2 => ?_)
      clear hK K hS
      have hS := hS2
      clear hS2
      (try simp only [Act.put, List.getElem_toArray, List.getElem_cons_zero, List.getElem_cons_succ, List.setIfInBounds_toArray, List.set_cons_zero, List.set_cons_succ])
      clear hb3
      refine wpAnyH_ready (rs := [6]) (by as_aux_lemma => kernel_rfl) (by simp) ?_
      refine AllReadyH.cons rfl (fun K hK => ?_) AllReadyH.nil
      go_simp
      refine (HCL.out _).mono ?_
      rintro e w4 ⟨rfl, hw4⟩
      have hw5 := hw4.symm
      subst hw5
      clear hw4
      refine hK.out _ _ (hS) (fun hS2 => ?_)
      clear hK K hS
      have hS := hS2
      clear hS2
      (try simp only [Act.put, List.getElem_toArray, List.getElem_cons_zero, List.getElem_cons_succ, List.setIfInBounds_toArray, List.set_cons_zero, List.set_cons_succ])
      refine wpAnyH_take (i := 7) (v := (.agg (mtC (markB ss) (.slice r az.length az.length)).toArray)) rfl (by as_aux_lemma => kernel_rfl) (by as_aux_lemma => kernel_rfl) (by as_aux_lemma => kernel_rfl) (fun _ _ _ h => h) (Or.inl ⟨by kernel_rfl, ?_⟩) hS ?_
      · intro w hSw; (try dsimp only at hSw); exact exec_build81 _ _ rfl (markB ss) (markB_len ss) _ rfl rfl rfl
      (try simp only [Act.put, List.getElem_toArray, List.getElem_cons_zero, List.getElem_cons_succ, List.setIfInBounds_toArray, List.set_cons_zero, List.set_cons_succ])
      refine wpAnyH_ready (rs := [8]) (by as_aux_lemma => kernel_rfl) (by simp) ?_
      refine AllReadyH.cons rfl (fun K hK => ?_) AllReadyH.nil
      go_simp
      refine (HPT.out _ _ HM3.out).mono ?_
      rintro e w6 ⟨rfl, v6, hm6, hf6⟩
      have hSF := hf6 D _ _ (Blk.below HD0.out HB3.out) (by decide) HDB
      refine hK.out _ _ ⟨by have := hSF.cell 0; simpa using this, by have := hSF.cell 1; simpa using this⟩ (fun hS2 => ?_)
      clear hK K hS hS2
      refine wpAnyH_done (by kernel_rfl) ?_ _
      have HM6 : Hid (Mem W0 w6 B b q z pv v6 ((ts.take (k + 1)).map mtOf) (entsFrom 0 ((ts.take (k + 1)).map mtOf))) := by
        rw [HTK.out, List.map_append, List.map_cons, List.map_nil, entsFrom_snoc, Nat.zero_add]
        exact hm6
      clear hm6 hf6 hSF
      go_wp2
      go_roundw
      case rel => exact ⟨k + 1, v6, by omega, by go_num, HM6⟩
      case measure => simp [intOf]; omega
    · have hm := HM.out
      rw [List.take_of_length_le (by rw [HLN.out]; omega)] at hm
      have HMF := hid hm
      clear hm HM
      go_wp2
      go_ret
      exact ⟨B, b, v, rfl, HMF.out, HMF.out.hB⟩
end Go.Proofs.YtlemdjgpkmjihaaGreat

namespace Go.Proofs.YtlemdjgpkmjihaaGreat
open Go.RowKit
set_option linter.unusedVariables false
set_option linter.unusedSimpArgs false

/-- The set of a state, by its place. -/
def setAt (ts : List St) (j : Int) : List Int := (ts.getD j.toNat ([], [])).1
/-- Does an arc lead where it should? Do all? -/
def arcT (is : List In) (ts : List St) (ss : List Int) (a : L2) : Bool := decide (setAt ts a.2 = nextS is ss a.1)
def stT (is : List In) (ts : List St) (x : St) : Bool := x.2.all (arcT is ts x.1)
def tabT (is : List In) (ts : List St) : Bool := ts.all (stT is ts)
theorem all_take {α : Type} {f : α → Bool} {xs : List α} {k : Nat} {x : α} (h : xs[k]? = some x) : (xs.take (k + 1)).all f = ((xs.take k).all f && f x) := by
  obtain ⟨hk, e⟩ := List.getElem?_eq_some_iff.1 h
  rw [List.take_succ_eq_append_getElem hk, e]
  simp
theorem all_not {α : Type} {f : α → Bool} {xs : List α} {k : Nat} {x : α} (h : xs[k]? = some x) (hf : f x = false) : xs.all f = false := by
  rw [List.all_eq_false]
  exact ⟨x, List.mem_of_getElem? h, by simp [hf]⟩

/-- A state of the memory. -/
theorem Mem.at {W0 w : World} {B b q : Nat} {z : Int} {pv v : Value} {ms : List Mt} {E : List Es} (h : Mem W0 w B b q z pv v ms E) {j : Nat} {x : Mt} (hj : ms[j]? = some x) :
    ∃ g vc ra rc, v = .slice (some ⟨g, 0, none⟩) ms.length vc ∧ (∀ f y, (mtC x.1.1 (.slice ra x.2.length rc))[f]? = some y → w.cell? ⟨g, j * 81 + f, none⟩ = some y) ∧ RdR lineE 2 w ra x.2.length x.2 ∧ x.2.length ≤ rc ∧ rc ≤ maxLen := by
  have hl := h.rows.len
  rcases RowN.cases h.rows with ⟨_, _, e⟩ | ⟨g, vc, rfl, _⟩
  · rw [e] at hj; simp at hj
  · obtain ⟨u, hc, hel, -⟩ := RowN.elem (mtOk W0) muE_len h.rows hj
    obtain ⟨e1, h2⟩ := hel
    have key : ∃ ra rc, u.2.1 = .slice ra x.2.length rc ∧ RdR lineE 2 w ra x.2.length x.2 ∧ x.2.length ≤ rc ∧ rc ≤ maxLen := by
      rcases h2 with ⟨_, a, e2, hm, hr⟩ | hs
      · exact ⟨a, _, e2, hr.below h.below, Nat.le_refl _, hm⟩
      · obtain ⟨a, c, e2, q1, q2⟩ := SubV.shape hs
        exact ⟨a, c, e2, SubS.read lineE_len hs e2, q1, q2⟩
    obtain ⟨ra, rc, e2, hr, q1, q2⟩ := key
    refine ⟨g, vc, ra, rc, rfl, fun f y hy => hc f y ?_, hr, q1, q2⟩
    unfold muE
    rw [e1, e2]
    exact hy

theorem mtC_last {S : List Bool} (h : S.length = 80) (v : Value) : (mtC S v)[80]? = some v := by
  rw [mtC, List.getElem?_append_right (by simp [h])]
  simp [h]
theorem mtC_one (S : List Bool) (a : Option Addr) (n c : Nat) : ∀ y ∈ mtC S (.slice a n c), y.oneCell' = true := by
  intro y hy
  unfold mtC at hy
  rcases List.mem_append.1 hy with hy | hy
  · obtain ⟨c, _, rfl⟩ := List.mem_map.1 hy; rfl
  · simp at hy; rw [hy]; rfl

theorem mtC_at {w : World} {g off : Nat} {S : List Bool} {v : Value} (h : ∀ f y, (mtC S v)[f]? = some y → w.cell? ⟨g, off + f, none⟩ = some y) : ∀ j y, (S.map Value.bool)[j]? = some y → w.cell? ⟨g, off + j, none⟩ = some y := by
  intro j y hy
  have hj := (List.getElem?_eq_some_iff.1 hy).1
  exact h j y (by rw [mtC, List.getElem?_append_left hj]; exact hy)

end Go.Proofs.YtlemdjgpkmjihaaGreat