/-
  The cache that a shelf tells.
-/
import Derived.Test.YtckkkhabjfbngaaShelf1
import Derived.Test.YtckkkhabjfbngaaHlpB
namespace Go.Proofs.Ytckkkhabjfbngaa
open Go.RowKit Go.ChangeMaps Go.MapKept
set_option linter.unusedVariables false
set_option linter.unusedSimpArgs false

theorem up_turns {E : List En} (h : Up E) : (E.map (·.turn)).Nodup := by
  unfold Up at h
  rw [List.Nodup, List.pairwise_map]
  exact h.imp (fun q => by omega)

set_option maxHeartbeats 3200000 in
set_option maxRecDepth 20000 in
theorem cache_any (bm : Nat) (U Z T : Int) (E : List En) (bs : List Bk) (w : World) (h : Shelf bm U Z T w E bs) (hl : E.length ≤ 12) (hby : (byB bs : Int) ≤ 1000000) :
    Calls Try.prog 52 #[.pointer (some ⟨bm + 1, 0, none⟩)] w fun e w' => ∃ v, e = .returned (.agg #[.int .i64 U, .int .i64 Z, v]) ∧ RowB 93 5 w' w.heap.size w'.heap.size v bs.length bs ∧ Below w.heap.size w w' := by
  obtain ⟨i0, hi, hz0, hz1, hz2⟩ := info_parts infoB
  have hEl := h.hold.1
  have hlt := h.blk.lt
  have g3 := h.blk.cell 3
  simp at g3
  have KI : Hid _ := fun w' => (callsIn_wide (n := 2)).1 (keys_in 2 bm w')
  have B2 : ∀ o1 o2, Below w.heap.size w ((w.alloc o1).alloc o2) := fun o1 o2 => ((Below.refl _ _).alloc (Nat.le_refl _) o1).alloc (by simp) o2
  have g3a : ∀ o1 o2, ((w.alloc o1).alloc o2).cell? ⟨bm + 1, 3, none⟩ = some (.map (some bm)) := fun o1 o2 => cell_later (B2 o1 o2) g3
  have HH : Hid (Shelf bm U Z T w E bs) := h
  obtain ⟨n, hn⟩ : ∃ n, n = bs.length := ⟨_, rfl⟩
  rw [← hn] at hEl ⊢
  clear h
  go_enter Try.func52, Try.ntmps52
  go_wp2_with fail
  refine Calls.mono (KI.out _) ?_
  rintro e w1 ⟨rfl, hw1⟩
  have hb1 : Below w.heap.size w w1 := by rw [hw1]; exact (B2 _ _).alloc (by simp; omega) _
  have hbx : Below (w.heap.size + 1 + 1) ((w.alloc (Obj.cells #[Value.pointer (some ⟨bm + 1, 0, none⟩)] 80)).alloc (Obj.cells #[Value.int .i64 0, Value.int .i64 0, Value.slice none 0 0] 26)) w1 := by rw [hw1]; exact (Below.refl _ _).alloc (by simp) _
  have hsz1 : w1.heap.size = w.heap.size + 3 := by rw [hw1]; simp
  have bs0 : w1.cell? ⟨w.heap.size, 0, none⟩ = some (.pointer (some ⟨bm + 1, 0, none⟩)) := (hbx.cell (p := ⟨w.heap.size, 0, none⟩) (by simp; omega)).trans (by simp)
  have r0 : w1.cell? ⟨w.heap.size + 1, 0, none⟩ = some (.int .i64 0) := (hbx.cell (p := ⟨w.heap.size + 1, 0, none⟩) (by simp)).trans (by simp [go_sem])
  have r1 : w1.cell? ⟨w.heap.size + 1, 1, none⟩ = some (.int .i64 0) := (hbx.cell (p := ⟨w.heap.size + 1, 1, none⟩) (by simp)).trans (by simp [go_sem])
  have r2 : w1.cell? ⟨w.heap.size + 1, 2, none⟩ = some (.slice none 0 0) := (hbx.cell (p := ⟨w.heap.size + 1, 2, none⟩) (by simp)).trans (by simp [go_sem])
  have rb : Blk w1 (w.heap.size + 1) #[.int .i64 0, .int .i64 0, .slice none 0 0] 26 := by
    rw [hw1]
    have q := Blk.new (w.alloc (Obj.cells #[Value.pointer (some ⟨bm + 1, 0, none⟩)] 80)) #[.int .i64 0, .int .i64 0, .slice none 0 0] 26
    rw [World.size_alloc] at q
    exact q.alloc _
  have hm1 : w1.cell? ⟨w.heap.size + 1 + 1, 0, none⟩ = some (.map (some bm)) := by
    rw [hw1, World.cell?_alloc_at _ _ _ _ (by simp)]
    rfl
  have hs1 := HH.out.below hb1
  have c3 := hs1.blk.cell 3
  simp at c3
  have SF := sortedFunc_any U bm (w.heap.size + 1 + 1) w.heap.size E w1 hm1 hs1.own bs0 c3 hs1.up (up_turns hs1.up) hl (by omega) (by omega)
  have HSF := hid SF
  clear SF hbx hw1
  go_wp2_with fail
  refine Calls.mono HSF.out ?_
  rintro e w2 ⟨v2, rfl, hk2, hb2⟩
  obtain ⟨ka, kc, hv, -, -, -⟩ := hk2.rd (keyE_len U)
  subst hv
  have hb02 := hb1.trans (hb2.mono hb1.size)
  have hs2 := hs1.below hb2
  have bs2 := cell_later hb2 bs0
  have rb2 : Blk w2 (w.heap.size + 1) #[.int .i64 0, .int .i64 0, .slice none 0 0] 26 := (hb2.block _ rb.lt).trans rb
  have hz12 := hb2.size
  rw [hEl] at hk2
  clear HSF hs1 hm1 hb2 bs0 r0 r1 r2 rb c3 hb1
  have hlen : bs.length = n := hn.symm
  clear hn
  rw [hEl]
  go_wp2_with (at_make; refine wpList_make_full _ rfl _ _ 24 rfl w2.heap.size 93 i0 (.agg #[.int .i64 0, .slice none 0 0]) 2 Try.underlying24 hi hz0 hz1 _ _ _ _ n rfl rfl rfl rfl (by rw [hz2]; omega) (by unfold maxLen; omega) (Nat.le_refl _) ?_)
  intro w3 hown3 hgrow3
  have ho0 : w3.ownsRow w2.heap.size 93 2 (.slice (some ⟨w2.heap.size, 0, none⟩) n n) n ((List.replicate n (((0 : Int), Value.slice none 0 0) : Bv)).flatMap bkE) := by
    rw [← madeBk]
    simpa [Value.cells] using hown3
  have hs3 : w2.heap.size < w3.heap.size := (World.ownsRow.lt ho0 w2.heap.size rfl).2
  have ho3 : RowB 93 5 w3 w2.heap.size w3.heap.size (.slice (some ⟨w2.heap.size, 0, none⟩) n n) n (List.replicate n (0, [])) := RowB.zeros ho0 hs3
  have hb3 : Below w2.heap.size w2 w3 := (Below.refl _ _).grown hgrow3 (Nat.le_refl _) (by simp)
  clear hown3 hgrow3 ho0
  have HS2 : Hid (Shelf bm U Z T w2 E bs) := hs2
  have HK2 : Hid (OwnR (keyE U) 2 95 w2 w1.heap.size (.slice ka n kc) n E) := hk2
  have HBS : Hid (w2.cell? ⟨w.heap.size, 0, none⟩ = some (.pointer (some ⟨bm + 1, 0, none⟩))) := bs2
  have HRB : Hid (Blk w2 (w.heap.size + 1) #[.int .i64 0, .int .i64 0, .slice none 0 0] 26) := rb2
  clear hs2 hk2 bs2 rb2
  have hw2lt : w.heap.size + 1 < w2.heap.size := by omega
  have hbmlt : bm + 1 < w2.heap.size := by omega
  clear hsz1 hz12
  go_wp2
  go_loopw [19] (fun i wr => ∃ k : Nat, k ≤ n ∧ i = .int .i64 k ∧ RowB 93 5 wr w2.heap.size wr.heap.size (.slice (some ⟨w2.heap.size, 0, none⟩) n n) n (bs.take k ++ List.replicate (n - k) (0, [])) ∧ Below w2.heap.size w2 wr ∧ w2.heap.size < wr.heap.size) (fun i _ => n - (intOf i).toNat)
  case atStart => exact ⟨0, Nat.zero_le _, rfl, by simpa using ho3, hb3, hs3⟩
  case round =>
    obtain ⟨k, hk, rfl, ho, hbw, hzw⟩ := hrel
    clear ho3 hb3 hs3
    have hsw := HS2.out.below hbw
    have bsw := cell_later hbw HBS.out
    by_cases hlt2 : k < n
    · have hlt' : (k : Int) < (n : Int) := by omega
      obtain ⟨e, he⟩ : ∃ e, E[k]? = some e := ⟨E[k], List.getElem?_eq_getElem (by omega)⟩
      obtain ⟨b, hbk⟩ : ∃ b, bs[k]? = some b := ⟨bs[k], List.getElem?_eq_getElem (by omega)⟩
      obtain ⟨q1, a', c', q2, q3, q4, q5, q6⟩ := hsw.hold.2 k e b he hbk
      obtain ⟨num, xs⟩ := b
      obtain ⟨en, et, ev⟩ := e
      simp only at q1 q2 q3 q4 q5 q6
      subst q1
      subst q2
      have hlx := byB_at hbk
      have heE : (⟨en, et, .slice a' xs.length c'⟩ : En) ∈ E := List.mem_of_getElem? he
      obtain ⟨kb, ko, hka, hkx⟩ : ∃ kb ko, ka = some ⟨kb, ko, none⟩ ∧ (wr.cell? ⟨kb, ko + k * 2, none⟩ = some (.int .i64 U) ∧ wr.cell? ⟨kb, ko + k * 2 + 1, none⟩ = some (.int .i64 en)) := by
        have hkr : RdR (keyE U) 2 wr ka n E := ((HK2.out.below hbw).read (keyE_len U))
        obtain ⟨kb, ko, x, e1, e2, e3⟩ := hkr.at hlt2
        rw [he] at e2
        obtain rfl := Option.some.inj e2
        exact ⟨kb, ko, e1, e3 0 _ rfl, e3 1 _ rfl⟩
      subst hka
      obtain ⟨kx0, kx1⟩ := hkx
      obtain ⟨W1, hW1⟩ : ∃ W1, W1 = wr.alloc (Obj.cells #[Value.int .i64 U, Value.int .i64 en] 95) := ⟨_, rfl⟩
      have hbW : Below wr.heap.size wr W1.drew := by rw [hW1]; exact ((Below.refl _ _).alloc (Nat.le_refl _) _).drew
      have hzW : W1.heap.size = wr.heap.size + 1 := by rw [hW1]; simp
      have k0 : W1.cell? ⟨wr.heap.size, 0, none⟩ = some (.int .i64 U) := by rw [hW1]; simp
      have k1 : W1.cell? ⟨wr.heap.size, 1, none⟩ = some (.int .i64 en) := by rw [hW1]; simp
      have bsW : W1.cell? ⟨w.heap.size, 0, none⟩ = some (.pointer (some ⟨bm + 1, 0, none⟩)) := by
        have q := cell_later hbW bsw
        exact q
      have hsW : Shelf bm U Z T W1.drew E bs := hsw.below hbW
      have c3 : W1.cell? ⟨bm + 1, 3, none⟩ = some (.map (some bm)) := by have q := hsW.blk.cell 3; simpa using q
      have ownW : OwnE U W1 bm E := hsW.own
      have hrW : Rd .u8 W1.drew a' xs.length xs := q3.below hbW
      have hoW : RowB 93 5 W1.drew w2.heap.size wr.heap.size (.slice (some ⟨w2.heap.size, 0, none⟩) n n) n (bs.take k ++ List.replicate (n - k) (0, [])) := ho.below hbW
      have CC : Hid _ := fun w' h' => copied_any a' xs.length c' xs w' h' (by omega)
      have HR : Hid (Rd .u8 W1.drew a' xs.length xs) := hrW
      have HO : Hid (RowB 93 5 W1.drew w2.heap.size wr.heap.size (.slice (some ⟨w2.heap.size, 0, none⟩) n n) n (bs.take k ++ List.replicate (n - k) (0, []))) := hoW
      have HX : Hid _ := hbk
      have HE : Hid _ := heE
      clear hsw ho hsW hrW hoW he hbk q6 q3 q4 q5 heE hlx
      go_wp2_with fail
      rw [← hW1]
      clear hW1
      refine wp_region_held_drew (S := fun w' => w'.cell? ⟨wr.heap.size, 0, none⟩ = some (.int .i64 U) ∧ w'.cell? ⟨wr.heap.size, 1, none⟩ = some (.int .i64 en) ∧ w'.cell? ⟨w.heap.size, 0, none⟩ = some (.pointer (some ⟨bm + 1, 0, none⟩)) ∧ w'.cell? ⟨bm + 1, 3, none⟩ = some (.map (some bm)) ∧ OwnE U w' bm E) (by kernel_rfl) (by exact ⟨k0, k1, bsW, c3, ownW⟩) (fun hS => ?_)
      refine wpAnyH_take (i := 0) (v := (.slice (some ⟨w2.heap.size, 0, none⟩) n n)) rfl (by as_aux_lemma => kernel_rfl) (by as_aux_lemma => kernel_rfl) (by as_aux_lemma => kernel_rfl) (fun _ _ _ h => h) (Or.inl ⟨by kernel_rfl, ?_⟩) hS ?_
      · intro w hSw; (try dsimp only at hSw); have hlk := OwnE.look hSw.2.2.2.2 HE.out false; simp only [kv, hv, Bool.false_eq_true, if_false] at hlk; have hfl := fldH1 (.int .i64 et) (.slice a' xs.length c') w; go_simp
      simp only [Act.put, List.getElem_toArray, List.getElem_cons_zero, List.getElem_cons_succ, List.setIfInBounds_toArray, List.set_cons_zero, List.set_cons_succ]
      refine wpAnyH_take (i := 1) (v := (.int .i64 (k : Int))) rfl (by as_aux_lemma => kernel_rfl) (by as_aux_lemma => kernel_rfl) (by as_aux_lemma => kernel_rfl) (fun _ _ _ h => h) (Or.inl ⟨by kernel_rfl, ?_⟩) hS ?_
      · intro w hSw; (try dsimp only at hSw); have hlk := OwnE.look hSw.2.2.2.2 HE.out false; simp only [kv, hv, Bool.false_eq_true, if_false] at hlk; have hfl := fldH1 (.int .i64 et) (.slice a' xs.length c') w; go_simp
      simp only [Act.put, List.getElem_toArray, List.getElem_cons_zero, List.getElem_cons_succ, List.setIfInBounds_toArray, List.set_cons_zero, List.set_cons_succ]
      refine wpAnyH_take (i := 2) (v := (.pointer (some ⟨wr.heap.size, 1, none⟩))) rfl (by as_aux_lemma => kernel_rfl) (by as_aux_lemma => kernel_rfl) (by as_aux_lemma => kernel_rfl) (fun _ _ _ h => h) (Or.inl ⟨by kernel_rfl, ?_⟩) hS ?_
      · intro w hSw; (try dsimp only at hSw); have hlk := OwnE.look hSw.2.2.2.2 HE.out false; simp only [kv, hv, Bool.false_eq_true, if_false] at hlk; have hfl := fldH1 (.int .i64 et) (.slice a' xs.length c') w; go_simp
      simp only [Act.put, List.getElem_toArray, List.getElem_cons_zero, List.getElem_cons_succ, List.setIfInBounds_toArray, List.set_cons_zero, List.set_cons_succ]
      refine wpAnyH_take (i := 3) (v := (.int .i64 en)) rfl (by as_aux_lemma => kernel_rfl) (by as_aux_lemma => kernel_rfl) (by as_aux_lemma => kernel_rfl) (fun _ _ _ h => h) (Or.inl ⟨by kernel_rfl, ?_⟩) hS ?_
      · intro w hSw; (try dsimp only at hSw); have hlk := OwnE.look hSw.2.2.2.2 HE.out false; simp only [kv, hv, Bool.false_eq_true, if_false] at hlk; have hfl := fldH1 (.int .i64 et) (.slice a' xs.length c') w; go_simp
      simp only [Act.put, List.getElem_toArray, List.getElem_cons_zero, List.getElem_cons_succ, List.setIfInBounds_toArray, List.set_cons_zero, List.set_cons_succ]
      refine wpAnyH_take (i := 4) (v := (.pointer (some ⟨bm + 1, 0, none⟩))) rfl (by as_aux_lemma => kernel_rfl) (by as_aux_lemma => kernel_rfl) (by as_aux_lemma => kernel_rfl) (fun _ _ _ h => h) (Or.inl ⟨by kernel_rfl, ?_⟩) hS ?_
      · intro w hSw; (try dsimp only at hSw); have hlk := OwnE.look hSw.2.2.2.2 HE.out false; simp only [kv, hv, Bool.false_eq_true, if_false] at hlk; have hfl := fldH1 (.int .i64 et) (.slice a' xs.length c') w; go_simp
      simp only [Act.put, List.getElem_toArray, List.getElem_cons_zero, List.getElem_cons_succ, List.setIfInBounds_toArray, List.set_cons_zero, List.set_cons_succ]
      refine wpAnyH_take (i := 5) (v := (.pointer (some ⟨bm + 1, 0, none⟩))) rfl (by as_aux_lemma => kernel_rfl) (by as_aux_lemma => kernel_rfl) (by as_aux_lemma => kernel_rfl) (fun _ _ _ h => h) (Or.inl ⟨by kernel_rfl, ?_⟩) hS ?_
      · intro w hSw; (try dsimp only at hSw); have hlk := OwnE.look hSw.2.2.2.2 HE.out false; simp only [kv, hv, Bool.false_eq_true, if_false] at hlk; have hfl := fldH1 (.int .i64 et) (.slice a' xs.length c') w; go_simp
      simp only [Act.put, List.getElem_toArray, List.getElem_cons_zero, List.getElem_cons_succ, List.setIfInBounds_toArray, List.set_cons_zero, List.set_cons_succ]
      refine wpAnyH_take (i := 6) (v := (.pointer (some ⟨bm + 1, 3, none⟩))) rfl (by as_aux_lemma => kernel_rfl) (by as_aux_lemma => kernel_rfl) (by as_aux_lemma => kernel_rfl) (fun _ _ _ h => h) (Or.inl ⟨by kernel_rfl, ?_⟩) hS ?_
      · intro w hSw; (try dsimp only at hSw); have hlk := OwnE.look hSw.2.2.2.2 HE.out false; simp only [kv, hv, Bool.false_eq_true, if_false] at hlk; have hfl := fldH1 (.int .i64 et) (.slice a' xs.length c') w; go_simp
      simp only [Act.put, List.getElem_toArray, List.getElem_cons_zero, List.getElem_cons_succ, List.setIfInBounds_toArray, List.set_cons_zero, List.set_cons_succ]
      refine wpAnyH_take (i := 7) (v := (.map (some bm))) rfl (by as_aux_lemma => kernel_rfl) (by as_aux_lemma => kernel_rfl) (by as_aux_lemma => kernel_rfl) (fun _ _ _ h => h) (Or.inl ⟨by kernel_rfl, ?_⟩) hS ?_
      · intro w hSw; (try dsimp only at hSw); have hlk := OwnE.look hSw.2.2.2.2 HE.out false; simp only [kv, hv, Bool.false_eq_true, if_false] at hlk; have hfl := fldH1 (.int .i64 et) (.slice a' xs.length c') w; go_simp
      simp only [Act.put, List.getElem_toArray, List.getElem_cons_zero, List.getElem_cons_succ, List.setIfInBounds_toArray, List.set_cons_zero, List.set_cons_succ]
      refine wpAnyH_take (i := 8) (v := (.agg #[.int .i64 U, .int .i64 en])) rfl (by as_aux_lemma => kernel_rfl) (by as_aux_lemma => kernel_rfl) (by as_aux_lemma => kernel_rfl) (fun _ _ _ h => h) (Or.inl ⟨by kernel_rfl, ?_⟩) hS ?_
      · intro w hSw; (try dsimp only at hSw); have hlk := OwnE.look hSw.2.2.2.2 HE.out false; simp only [kv, hv, Bool.false_eq_true, if_false] at hlk; have hfl := fldH1 (.int .i64 et) (.slice a' xs.length c') w; go_simp
      simp only [Act.put, List.getElem_toArray, List.getElem_cons_zero, List.getElem_cons_succ, List.setIfInBounds_toArray, List.set_cons_zero, List.set_cons_succ]
      refine wpAnyH_take (i := 9) (v := (.agg #[.int .i64 et, .slice a' xs.length c'])) rfl (by as_aux_lemma => kernel_rfl) (by as_aux_lemma => kernel_rfl) (by as_aux_lemma => kernel_rfl) (fun _ _ _ h => h) (Or.inl ⟨by kernel_rfl, ?_⟩) hS ?_
      · intro w hSw; (try dsimp only at hSw); have hlk := OwnE.look hSw.2.2.2.2 HE.out false; simp only [kv, hv, Bool.false_eq_true, if_false] at hlk; have hfl := fldH1 (.int .i64 et) (.slice a' xs.length c') w; go_simp
      simp only [Act.put, List.getElem_toArray, List.getElem_cons_zero, List.getElem_cons_succ, List.setIfInBounds_toArray, List.set_cons_zero, List.set_cons_succ]
      refine wpAnyH_take (i := 10) (v := (.slice a' xs.length c')) rfl (by as_aux_lemma => kernel_rfl) (by as_aux_lemma => kernel_rfl) (by as_aux_lemma => kernel_rfl) (fun _ _ _ h => h) (Or.inl ⟨by kernel_rfl, ?_⟩) hS ?_
      · intro w hSw; (try dsimp only at hSw); have hlk := OwnE.look hSw.2.2.2.2 HE.out false; simp only [kv, hv, Bool.false_eq_true, if_false] at hlk; have hfl := fldH1 (.int .i64 et) (.slice a' xs.length c') w; go_simp
      simp only [Act.put, List.getElem_toArray, List.getElem_cons_zero, List.getElem_cons_succ, List.setIfInBounds_toArray, List.set_cons_zero, List.set_cons_succ]
      refine wpAnyH_ready (rs := [11]) (by as_aux_lemma => kernel_rfl) (by simp) ?_
      refine AllReadyH.cons rfl (fun K hK => ?_) AllReadyH.nil
      go_simp
      refine Calls.mono (CC.out _ (by exact HR.out)) ?_
      rintro e' v' ⟨v2', rfl, hrow2, hv'⟩
      obtain ⟨a2, c2, rfl, -, -⟩ := hrow2.shape
      refine hK.out _ _ ⟨cell_later hv' hS.1, cell_later hv' hS.2.1, cell_later hv' hS.2.2.1, cell_later hv' hS.2.2.2.1, OwnE.below hS.2.2.2.2 hv'⟩ (fun hS => ?_)
      clear hK K
      have ho2 := RowB.below HO.out hv'
      obtain ⟨p1, p2, e0, e1, _⟩ := RowB.elem bu_ne ho2 (cpB_mid bs n k hlen hlt2)
      have f0 := ho2.frozen (k * 2)
      have f1 := ho2.frozen (k * 2 + 1)
      have hst := RowB.set (num := en) bu_ne ho2 hlt2 hrow2 (by show wr.heap.size ≤ W1.heap.size; omega) (by show w2.heap.size ≤ W1.heap.size; omega) (by have := hv'.size; have h9 : W1.drew.heap.size = W1.heap.size := rfl; omega)
      rw [cpB_set hlen HX.out] at hst
      have HST : Hid _ := hst
      clear hst ho2 hrow2
      refine wpAnyH_take (i := 12) (v := (.agg #[.int .i64 en, .slice a2 xs.length c2])) rfl (by as_aux_lemma => kernel_rfl) (by as_aux_lemma => kernel_rfl) (by as_aux_lemma => kernel_rfl) (fun _ _ _ h => h) (Or.inl ⟨by kernel_rfl, ?_⟩) hS ?_
      · intro w hSw; (try dsimp only at hSw); have hlk := OwnE.look hSw.2.2.2.2 HE.out false; simp only [kv, hv, Bool.false_eq_true, if_false] at hlk; have hfl := fldH1 (.int .i64 et) (.slice a' xs.length c') w; go_simp
      simp only [Act.put, List.getElem_toArray, List.getElem_cons_zero, List.getElem_cons_succ, List.setIfInBounds_toArray, List.set_cons_zero, List.set_cons_succ]
      refine wpAnyH_take (i := 13) (v := (.pointer (some ⟨w2.heap.size, k * 2, none⟩))) rfl (by as_aux_lemma => kernel_rfl) (by as_aux_lemma => kernel_rfl) (by as_aux_lemma => kernel_rfl) (fun _ _ _ h => h) (Or.inl ⟨by kernel_rfl, ?_⟩) hS ?_
      · intro w hSw; (try dsimp only at hSw); have hlk := OwnE.look hSw.2.2.2.2 HE.out false; simp only [kv, hv, Bool.false_eq_true, if_false] at hlk; have hfl := fldH1 (.int .i64 et) (.slice a' xs.length c') w; go_simp
      simp only [Act.put, List.getElem_toArray, List.getElem_cons_zero, List.getElem_cons_succ, List.setIfInBounds_toArray, List.set_cons_zero, List.set_cons_succ]
      refine wpAnyH_ready (rs := [14]) (by as_aux_lemma => kernel_rfl) (by simp) ?_
      refine AllReadyH.cons rfl (fun K hK => ?_) AllReadyH.nil
      go_simp
      refine hK.out _ _ ⟨cell_of_grown HST.out.2.1 (by omega) hS.1, cell_of_grown HST.out.2.1 (by omega) hS.2.1, cell_of_grown HST.out.2.1 (by omega) hS.2.2.1, cell_of_grown HST.out.2.1 (by omega) hS.2.2.2.1, OwnE.kept hS.2.2.2.2 HST.out.2.1 (by simp; omega)⟩ (fun hS => ?_)
      clear hK K
      refine wpAnyH_done (by kernel_rfl) ?_ _
      clear hS
      have hfin0 := hbw.trans ((hbW.trans (hv'.mono hbW.size)).mono hbw.size)
      have hsz9 : w2.heap.size < v'.heap.size := by have := hv'.size; have := hbW.size; omega
      go_wp2
      go_roundw
      case rel => exact ⟨k + 1, by omega, by go_num, by simpa using HST.out.1, (hfin0.setCell (Nat.le_refl _) _).setCell (Nat.le_refl _) _, by simpa using hsz9⟩
      case measure => simp [intOf]; omega
    · obtain rfl : k = n := by omega
      rw [Nat.sub_self, List.replicate_zero, List.append_nil, List.take_of_length_le (by omega)] at ho
      have rbw : Blk wr (w.heap.size + 1) #[.int .i64 0, .int .i64 0, .slice none 0 0] 26 := (hbw.block _ HRB.out.lt).trans HRB.out
      have d0 := rbw.cell 0
      have d1 := rbw.cell 1
      have d2 := rbw.cell 2
      have df0 := rbw.frozen 0
      have df1 := rbw.frozen 1
      have df2 := rbw.frozen 2
      have u0 := hsw.blk.cell 0
      have u1 := hsw.blk.cell 1
      simp at d0 d1 d2 u0 u1
      have hbb : Below w.heap.size w wr := hb02.trans (hbw.mono hb02.size)
      have HO : Hid _ := ho
      have hgs : ∀ x y z, wr.grownBy (((wr.drew.setCell ⟨w.heap.size + 1, 0, none⟩ x).setCell ⟨w.heap.size + 1, 1, none⟩ y).setCell ⟨w.heap.size + 1, 2, none⟩ z) (some (w.heap.size + 1)) := fun x y z => grown_undrew (grownT (grownT (set_grown _ _ _ _) (set_grown _ _ _ _)) (set_grown _ _ _ _))
      clear ho hsw rbw
      go_wp2_with fail
      refine wp_region_held_drew (S := fun w' => w'.cell? ⟨w.heap.size, 0, none⟩ = some (.pointer (some ⟨bm + 1, 0, none⟩)) ∧ w'.cell? ⟨bm + 1, 0, none⟩ = some (.int .i64 U) ∧ w'.cell? ⟨bm + 1, 1, none⟩ = some (.int .i64 Z)) (by kernel_rfl) (by exact ⟨bsw, u0, u1⟩) (fun hS => ?_)
      refine wpAnyH_take (i := 0) (v := (.pointer (some ⟨bm + 1, 0, none⟩))) rfl (by as_aux_lemma => kernel_rfl) (by as_aux_lemma => kernel_rfl) (by as_aux_lemma => kernel_rfl) (fun _ _ _ h => h) (Or.inl ⟨by kernel_rfl, ?_⟩) hS ?_
      · intro w hSw; (try dsimp only at hSw); go_simp
      simp only [Act.put, List.getElem_toArray, List.getElem_cons_zero, List.getElem_cons_succ, List.setIfInBounds_toArray, List.set_cons_zero, List.set_cons_succ]
      refine wpAnyH_take (i := 1) (v := (.pointer (some ⟨bm + 1, 0, none⟩))) rfl (by as_aux_lemma => kernel_rfl) (by as_aux_lemma => kernel_rfl) (by as_aux_lemma => kernel_rfl) (fun _ _ _ h => h) (Or.inl ⟨by kernel_rfl, ?_⟩) hS ?_
      · intro w hSw; (try dsimp only at hSw); go_simp
      simp only [Act.put, List.getElem_toArray, List.getElem_cons_zero, List.getElem_cons_succ, List.setIfInBounds_toArray, List.set_cons_zero, List.set_cons_succ]
      refine wpAnyH_take (i := 2) (v := (.pointer (some ⟨bm + 1, 0, none⟩))) rfl (by as_aux_lemma => kernel_rfl) (by as_aux_lemma => kernel_rfl) (by as_aux_lemma => kernel_rfl) (fun _ _ _ h => h) (Or.inl ⟨by kernel_rfl, ?_⟩) hS ?_
      · intro w hSw; (try dsimp only at hSw); go_simp
      simp only [Act.put, List.getElem_toArray, List.getElem_cons_zero, List.getElem_cons_succ, List.setIfInBounds_toArray, List.set_cons_zero, List.set_cons_succ]
      refine wpAnyH_take (i := 3) (v := (.int .i64 U)) rfl (by as_aux_lemma => kernel_rfl) (by as_aux_lemma => kernel_rfl) (by as_aux_lemma => kernel_rfl) (fun _ _ _ h => h) (Or.inl ⟨by kernel_rfl, ?_⟩) hS ?_
      · intro w hSw; (try dsimp only at hSw); go_simp
      simp only [Act.put, List.getElem_toArray, List.getElem_cons_zero, List.getElem_cons_succ, List.setIfInBounds_toArray, List.set_cons_zero, List.set_cons_succ]
      refine wpAnyH_take (i := 4) (v := (.pointer (some ⟨bm + 1, 0, none⟩))) rfl (by as_aux_lemma => kernel_rfl) (by as_aux_lemma => kernel_rfl) (by as_aux_lemma => kernel_rfl) (fun _ _ _ h => h) (Or.inl ⟨by kernel_rfl, ?_⟩) hS ?_
      · intro w hSw; (try dsimp only at hSw); go_simp
      simp only [Act.put, List.getElem_toArray, List.getElem_cons_zero, List.getElem_cons_succ, List.setIfInBounds_toArray, List.set_cons_zero, List.set_cons_succ]
      refine wpAnyH_take (i := 5) (v := (.pointer (some ⟨bm + 1, 0, none⟩))) rfl (by as_aux_lemma => kernel_rfl) (by as_aux_lemma => kernel_rfl) (by as_aux_lemma => kernel_rfl) (fun _ _ _ h => h) (Or.inl ⟨by kernel_rfl, ?_⟩) hS ?_
      · intro w hSw; (try dsimp only at hSw); go_simp
      simp only [Act.put, List.getElem_toArray, List.getElem_cons_zero, List.getElem_cons_succ, List.setIfInBounds_toArray, List.set_cons_zero, List.set_cons_succ]
      refine wpAnyH_take (i := 6) (v := (.pointer (some ⟨bm + 1, 1, none⟩))) rfl (by as_aux_lemma => kernel_rfl) (by as_aux_lemma => kernel_rfl) (by as_aux_lemma => kernel_rfl) (fun _ _ _ h => h) (Or.inl ⟨by kernel_rfl, ?_⟩) hS ?_
      · intro w hSw; (try dsimp only at hSw); go_simp
      simp only [Act.put, List.getElem_toArray, List.getElem_cons_zero, List.getElem_cons_succ, List.setIfInBounds_toArray, List.set_cons_zero, List.set_cons_succ]
      refine wpAnyH_take (i := 7) (v := (.int .i64 Z)) rfl (by as_aux_lemma => kernel_rfl) (by as_aux_lemma => kernel_rfl) (by as_aux_lemma => kernel_rfl) (fun _ _ _ h => h) (Or.inl ⟨by kernel_rfl, ?_⟩) hS ?_
      · intro w hSw; (try dsimp only at hSw); go_simp
      simp only [Act.put, List.getElem_toArray, List.getElem_cons_zero, List.getElem_cons_succ, List.setIfInBounds_toArray, List.set_cons_zero, List.set_cons_succ]
      refine wpAnyH_take (i := 8) (v := (.slice (some ⟨w2.heap.size, 0, none⟩) k k)) rfl (by as_aux_lemma => kernel_rfl) (by as_aux_lemma => kernel_rfl) (by as_aux_lemma => kernel_rfl) (fun _ _ _ h => h) (Or.inl ⟨by kernel_rfl, ?_⟩) hS ?_
      · intro w hSw; (try dsimp only at hSw); go_simp
      simp only [Act.put, List.getElem_toArray, List.getElem_cons_zero, List.getElem_cons_succ, List.setIfInBounds_toArray, List.set_cons_zero, List.set_cons_succ]
      refine wpAnyH_take (i := 9) (v := (.agg #[.int .i64 U, .int .i64 Z, .slice (some ⟨w2.heap.size, 0, none⟩) k k])) rfl (by as_aux_lemma => kernel_rfl) (by as_aux_lemma => kernel_rfl) (by as_aux_lemma => kernel_rfl) (fun _ _ _ h => h) (Or.inl ⟨by kernel_rfl, ?_⟩) hS ?_
      · intro w hSw; (try dsimp only at hSw); go_simp
      simp only [Act.put, List.getElem_toArray, List.getElem_cons_zero, List.getElem_cons_succ, List.setIfInBounds_toArray, List.set_cons_zero, List.set_cons_succ]
      refine wpAnyH_ready (rs := [10]) (by as_aux_lemma => kernel_rfl) (by simp) ?_
      refine AllReadyH.cons rfl (fun K hK => ?_) AllReadyH.nil
      go_simp
      refine hK.out _ _ ⟨cell_of_grown (hgs (.int .i64 U) (.int .i64 Z) (.slice (some ⟨w2.heap.size, 0, none⟩) k k)) (by omega) hS.1, cell_of_grown (hgs (.int .i64 U) (.int .i64 Z) (.slice (some ⟨w2.heap.size, 0, none⟩) k k)) (by omega) hS.2.1, cell_of_grown (hgs (.int .i64 U) (.int .i64 Z) (.slice (some ⟨w2.heap.size, 0, none⟩) k k)) (by omega) hS.2.2⟩ (fun hS => ?_)
      clear hK K
      refine wpAnyH_done (by kernel_rfl) ?_ _
      clear hS
      go_wp2
      refine bodyPost_ret (v := .agg #[.int .i64 U, .int .i64 Z, .slice (some ⟨w2.heap.size, 0, none⟩) k k]) (by simp [results, Try.results52, go_sem, d0, d1, d2]) rfl ⟨_, rfl, ?_, ?_⟩
      · have hq := RowB.chg HO.out (Chg.one (hgs (.int .i64 U) (.int .i64 Z) (.slice (some ⟨w2.heap.size, 0, none⟩) k k))) (.inr (by omega))
        exact hq.mono (by omega) (by simp [World.setCell])
      · exact (((hbb.drew).setCell (by simp) _).setCell (by simp) _).setCell (by simp) _
end Go.Proofs.Ytckkkhabjfbngaa
