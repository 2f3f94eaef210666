/-
  The library's insertion sort over the shelf's keys: they come out in the order of their turns.
-/
import Derived.Test.YtckkkhabjfbngaaSort1
namespace Go.Proofs.Ytckkkhabjfbngaa
open Go.RowKit Go.ChangeMaps Go.MapKept
set_option linter.unusedVariables false
set_option linter.unusedSimpArgs false

/-- In the order of their turns. -/
abbrev Up (l : List En) : Prop := l.Pairwise (fun a b => a.turn < b.turn)

theorem storeK {U : Int} {w : World} {base g n cap j : Nat} {ys : List En} {x : En} (h : OwnR (keyE U) 2 95 w base (.slice (some ⟨g, 0, none⟩) n cap) n ys) (hx : ys[j]? = some x) (y : En) :
    OwnR (keyE U) 2 95 ((w.setCell ⟨g, j * 2, none⟩ (.int .i64 U)).setCell ⟨g, j * 2 + 1, none⟩ (.int .i64 y.num)) base (.slice (some ⟨g, 0, none⟩) n cap) n (ys.set j y) ∧
    w.grownBy ((w.setCell ⟨g, j * 2, none⟩ (.int .i64 U)).setCell ⟨g, j * 2 + 1, none⟩ (.int .i64 y.num)) (some g) := by
  have hj : j < ys.length := (List.getElem?_eq_some_iff.1 hx).1
  have s0 := OwnR.store (f := 0) (u := .int .i64 U) (y := x) (keyE_len U) h hx (by omega) rfl
  have x1 : (ys.set j x)[j]? = some x := by simp [hj]
  have s1 := OwnR.store (f := 1) (u := .int .i64 y.num) (y := y) (keyE_len U) s0.1 x1 (by omega) rfl
  rw [List.set_set] at s1
  exact ⟨s1.1, grownBy_trans s0.2 s1.2⟩

/-- Two neighbours change places. -/
theorem swap_at (p : List En) (x y : En) (q : List En) : ((p ++ y :: x :: q).set (p.length + 1) y).set p.length x = p ++ x :: y :: q := by
  have e1 : (p ++ y :: x :: q).set (p.length + 1) y = p ++ y :: y :: q := by
    rw [List.set_append_right _ _ (by omega), Nat.add_sub_cancel_left]
    rfl
  rw [e1, List.set_append_right _ _ (Nat.le_refl _), Nat.sub_self]
  rfl

theorem up_insert {p q : List En} {x : En} (h : Up (p ++ q)) (h1 : ∀ a ∈ p, a.turn < x.turn) (h2 : ∀ a ∈ q, x.turn < a.turn) : Up (p ++ x :: q) := by
  unfold Up at *
  rw [List.pairwise_append] at h ⊢
  obtain ⟨k1, k2, k3⟩ := h
  refine ⟨k1, List.pairwise_cons.2 ⟨h2, k2⟩, fun a ha b hb => ?_⟩
  rcases List.mem_cons.1 hb with rfl | hb
  · exact h1 a ha
  · exact k3 a ha b hb

theorem up_last {p : List En} {y x : En} (h : Up (p ++ [y])) (hy : y.turn < x.turn) : ∀ a ∈ p ++ [y], a.turn < x.turn := by
  intro a ha
  unfold Up at h
  rw [List.pairwise_append] at h
  rcases List.mem_append.1 ha with ha | ha
  · have := h.2.2 a ha y (by simp)
    omega
  · simp at ha
    rw [ha]
    exact hy

theorem cell_below {base b off : Nat} {w w' : World} {v : Value} (h : Below base w w') (hb : b < base) (hc : w.cell? ⟨b, off, none⟩ = some v) : w'.cell? ⟨b, off, none⟩ = some v := (h.cell (p := ⟨b, off, none⟩) hb).trans hc

theorem OwnE.belowN {U : Int} {base b : Nat} {w w' : World} {B : List En} (h : OwnE U w b B) (hb : Below base w w') (hlt : b < base) : OwnE U w' b B := by
  obtain ⟨es, clock, k1, k2⟩ := h
  exact ⟨es, clock, (hb.block b hlt).trans k1, k2⟩

set_option maxRecDepth 20000 in
set_option maxHeartbeats 4000000 in
theorem insertionSort_any (U : Int) (bm Bs g n cap base : Nat) (B ys : List En) (w : World) (hp : ys.Perm B) (hB : (B.map (·.turn)).Nodup) (hn : n ≤ 1000) (hg : base ≤ g) (hbm : bm + 1 < base) (hBs : Bs < base) (hbase : base ≤ w.heap.size)
    (cs : w.cell? ⟨Bs, 0, none⟩ = some (.pointer (some ⟨bm + 1, 0, none⟩))) (cm : w.cell? ⟨bm + 1, 3, none⟩ = some (.map (some bm))) (hown : OwnE U w bm B) (hrow : OwnR (keyE U) 2 95 w base (.slice (some ⟨g, 0, none⟩) n cap) n ys) :
    Calls Try.prog 111 #[(.slice (some ⟨g, 0, none⟩) n cap), .int .i64 0, .int .i64 n, (.func (.func 88) #[] #[.pointer (some ⟨Bs, 0, none⟩)])] w fun e w' => e = .returned (.tuple #[]) ∧ (∃ zs, zs.Perm B ∧ Up zs ∧ OwnR (keyE U) 2 95 w' base (.slice (some ⟨g, 0, none⟩) n cap) n zs) ∧ Below base w w' := by
  go_enter Try.func111, Try.ntmps111
  go_wp2
  go_loopw [8] (fun i wr => ∃ (k : Nat) (zs : List En), 1 ≤ k ∧ i = .int .i64 k ∧ zs.Perm B ∧ Up (zs.take k) ∧ OwnR (keyE U) 2 95 wr base (.slice (some ⟨g, 0, none⟩) n cap) n zs ∧ Below base w wr) (fun i _ => n - (intOf i).toNat)
  case atStart => exact ⟨1, ys, Nat.le_refl _, rfl, hp, by unfold Up; cases ys <;> simp, hrow, Below.refl _ _⟩
  case round =>
    obtain ⟨k, zs, hk1, rfl, hpz, hup, hrz, hbw⟩ := hrel
    have hlz := hrz.1
    by_cases hlt : k < n
    · have hlt' : (k : Int) < (n : Int) := by omega
      have hkz : k < zs.length := by omega
      have hz0 : zs = zs.take k ++ zs[k] :: ([] ++ zs.drop (k + 1)) := by
        rw [List.nil_append, ← List.drop_eq_getElem_cons hkz, List.take_append_drop]
      have HU : Hid _ := hup
      have HZ : Hid _ := hz0
      have HP : Hid _ := hpz
      have HRZ : Hid (OwnR (keyE U) 2 95 wr base (.slice (some ⟨g, 0, none⟩) n cap) n zs) := hrz
      clear hup hz0 hpz hrz
      go_wp2
      go_loopw [9] (fun jv wr' => ∃ (p q rest : List En) (x : En), jv = .int .i64 p.length ∧ p.length + q.length = k ∧ (p ++ x :: (q ++ rest)).Perm B ∧ Up (p ++ q) ∧ (∀ a ∈ q, x.turn < a.turn) ∧ OwnR (keyE U) 2 95 wr' base (.slice (some ⟨g, 0, none⟩) n cap) n (p ++ x :: (q ++ rest)) ∧ Below base w wr') (fun jv _ => (intOf jv).toNat)
      case atStart => exact ⟨zs.take k, [], zs.drop (k + 1), zs[k], by rw [List.length_take, Nat.min_eq_left (by omega)], by simp; omega, by rw [← HZ.out]; exact HP.out, by simpa using HU.out, by simp, by rw [← HZ.out]; exact HRZ.out, hbw⟩
      case round =>
        obtain ⟨p, q, rest, x, rfl, hpq, hpz, hup, hq, hrz, hbw2⟩ := hrel
        have hcs := cell_below hbw2 hBs cs
        have hcm := cell_below hbw2 hbm cm
        have howr := hown.belowN hbw2 (by omega)
        have hlen := hrz.1
        have hbase2 : base ≤ wr.heap.size := Nat.le_trans hbase hbw2.size
        rcases List.eq_nil_or_concat p with rfl | ⟨p', y, hpe⟩
        · have HUP : Hid _ := up_insert hup (by simp) hq
          have HRZ2 : Hid (OwnR (keyE U) 2 95 wr base (.slice (some ⟨g, 0, none⟩) n cap) n ([] ++ x :: (q ++ rest))) := hrz
          have HP2 : Hid _ := hpz
          have hql : q.length = k := by simpa using hpq
          clear hup hrz hpz
          simp only [List.length_nil, Int.natCast_zero, Int.cast_ofNat_Int] at *
          go_wp2
          refine wp_region_held_drew (S := fun w' => True) (by kernel_rfl) trivial (fun hS => ?_)
          refine wpAnyH_take (i := 0) (v := (.int .i64 0)) rfl (by as_aux_lemma => kernel_rfl) (by as_aux_lemma => kernel_rfl) (by as_aux_lemma => kernel_rfl) (fun _ _ _ h => h) (Or.inl ⟨by kernel_rfl, ?_⟩) hS ?_
          · intro w hSw; (try dsimp only at hSw); go_simp
          simp only [Act.put, List.getElem_toArray, List.getElem_cons_zero, List.getElem_cons_succ, List.setIfInBounds_toArray, List.set_cons_zero, List.set_cons_succ]
          refine wpAnyH_take (i := 1) (v := (.int .i64 0)) rfl (by as_aux_lemma => kernel_rfl) (by as_aux_lemma => kernel_rfl) (by as_aux_lemma => kernel_rfl) (fun _ _ _ h => h) (Or.inl ⟨by kernel_rfl, ?_⟩) hS ?_
          · intro w hSw; (try dsimp only at hSw); go_simp
          simp only [Act.put, List.getElem_toArray, List.getElem_cons_zero, List.getElem_cons_succ, List.setIfInBounds_toArray, List.set_cons_zero, List.set_cons_succ]
          refine wpAnyH_take (i := 2) (v := (.bool false)) rfl (by as_aux_lemma => kernel_rfl) (by as_aux_lemma => kernel_rfl) (by as_aux_lemma => kernel_rfl) (fun _ _ _ h => h) (Or.inl ⟨by kernel_rfl, ?_⟩) hS ?_
          · intro w hSw; (try dsimp only at hSw); go_simp
          simp only [Act.put, List.getElem_toArray, List.getElem_cons_zero, List.getElem_cons_succ, List.setIfInBounds_toArray, List.set_cons_zero, List.set_cons_succ]
          refine wpAnyH_take (i := 3) (v := (.bool false)) rfl (by as_aux_lemma => kernel_rfl) (by as_aux_lemma => kernel_rfl) (by as_aux_lemma => kernel_rfl) (fun _ _ _ h => h) (Or.inl ⟨by kernel_rfl, ?_⟩) hS ?_
          · intro w hSw; (try dsimp only at hSw); go_simp
          simp only [Act.put, List.getElem_toArray, List.getElem_cons_zero, List.getElem_cons_succ, List.setIfInBounds_toArray, List.set_cons_zero, List.set_cons_succ]
          refine wpAnyH_take (i := 4) (v := undef) rfl (by as_aux_lemma => kernel_rfl) (by as_aux_lemma => kernel_rfl) (by as_aux_lemma => kernel_rfl) (fun _ _ _ h => h) (Or.inr ⟨by kernel_rfl, rfl⟩) hS ?_
          simp only [Act.put, List.getElem_toArray, List.getElem_cons_zero, List.getElem_cons_succ, List.setIfInBounds_toArray, List.set_cons_zero, List.set_cons_succ]
          refine wpAnyH_take (i := 5) (v := undef) rfl (by as_aux_lemma => kernel_rfl) (by as_aux_lemma => kernel_rfl) (by as_aux_lemma => kernel_rfl) (fun _ _ _ h => h) (Or.inr ⟨by kernel_rfl, rfl⟩) hS ?_
          simp only [Act.put, List.getElem_toArray, List.getElem_cons_zero, List.getElem_cons_succ, List.setIfInBounds_toArray, List.set_cons_zero, List.set_cons_succ]
          refine wpAnyH_take (i := 6) (v := undef) rfl (by as_aux_lemma => kernel_rfl) (by as_aux_lemma => kernel_rfl) (by as_aux_lemma => kernel_rfl) (fun _ _ _ h => h) (Or.inr ⟨by kernel_rfl, rfl⟩) hS ?_
          simp only [Act.put, List.getElem_toArray, List.getElem_cons_zero, List.getElem_cons_succ, List.setIfInBounds_toArray, List.set_cons_zero, List.set_cons_succ]
          refine wpAnyH_take (i := 7) (v := undef) rfl (by as_aux_lemma => kernel_rfl) (by as_aux_lemma => kernel_rfl) (by as_aux_lemma => kernel_rfl) (fun _ _ _ h => h) (Or.inr ⟨by kernel_rfl, rfl⟩) hS ?_
          simp only [Act.put, List.getElem_toArray, List.getElem_cons_zero, List.getElem_cons_succ, List.setIfInBounds_toArray, List.set_cons_zero, List.set_cons_succ]
          refine wpAnyH_take (i := 8) (v := undef) rfl (by as_aux_lemma => kernel_rfl) (by as_aux_lemma => kernel_rfl) (by as_aux_lemma => kernel_rfl) (fun _ _ _ h => h) (Or.inr ⟨by kernel_rfl, rfl⟩) hS ?_
          simp only [Act.put, List.getElem_toArray, List.getElem_cons_zero, List.getElem_cons_succ, List.setIfInBounds_toArray, List.set_cons_zero, List.set_cons_succ]
          refine wpAnyH_take (i := 9) (v := undef) rfl (by as_aux_lemma => kernel_rfl) (by as_aux_lemma => kernel_rfl) (by as_aux_lemma => kernel_rfl) (fun _ _ _ h => h) (Or.inr ⟨by kernel_rfl, rfl⟩) hS ?_
          simp only [Act.put, List.getElem_toArray, List.getElem_cons_zero, List.getElem_cons_succ, List.setIfInBounds_toArray, List.set_cons_zero, List.set_cons_succ]
          refine wpAnyH_take (i := 10) (v := undef) rfl (by as_aux_lemma => kernel_rfl) (by as_aux_lemma => kernel_rfl) (by as_aux_lemma => kernel_rfl) (fun _ _ _ h => h) (Or.inr ⟨by kernel_rfl, rfl⟩) hS ?_
          simp only [Act.put, List.getElem_toArray, List.getElem_cons_zero, List.getElem_cons_succ, List.setIfInBounds_toArray, List.set_cons_zero, List.set_cons_succ]
          refine wpAnyH_take (i := 11) (v := undef) rfl (by as_aux_lemma => kernel_rfl) (by as_aux_lemma => kernel_rfl) (by as_aux_lemma => kernel_rfl) (fun _ _ _ h => h) (Or.inr ⟨by kernel_rfl, rfl⟩) hS ?_
          simp only [Act.put, List.getElem_toArray, List.getElem_cons_zero, List.getElem_cons_succ, List.setIfInBounds_toArray, List.set_cons_zero, List.set_cons_succ]
          refine wpAnyH_take (i := 12) (v := undef) rfl (by as_aux_lemma => kernel_rfl) (by as_aux_lemma => kernel_rfl) (by as_aux_lemma => kernel_rfl) (fun _ _ _ h => h) (Or.inr ⟨by kernel_rfl, rfl⟩) hS ?_
          simp only [Act.put, List.getElem_toArray, List.getElem_cons_zero, List.getElem_cons_succ, List.setIfInBounds_toArray, List.set_cons_zero, List.set_cons_succ]
          refine wpAnyH_take (i := 13) (v := undef) rfl (by as_aux_lemma => kernel_rfl) (by as_aux_lemma => kernel_rfl) (by as_aux_lemma => kernel_rfl) (fun _ _ _ h => h) (Or.inr ⟨by kernel_rfl, rfl⟩) hS ?_
          simp only [Act.put, List.getElem_toArray, List.getElem_cons_zero, List.getElem_cons_succ, List.setIfInBounds_toArray, List.set_cons_zero, List.set_cons_succ]
          refine wpAnyH_take (i := 14) (v := undef) rfl (by as_aux_lemma => kernel_rfl) (by as_aux_lemma => kernel_rfl) (by as_aux_lemma => kernel_rfl) (fun _ _ _ h => h) (Or.inr ⟨by kernel_rfl, rfl⟩) hS ?_
          simp only [Act.put, List.getElem_toArray, List.getElem_cons_zero, List.getElem_cons_succ, List.setIfInBounds_toArray, List.set_cons_zero, List.set_cons_succ]
          refine wpAnyH_take (i := 15) (v := undef) rfl (by as_aux_lemma => kernel_rfl) (by as_aux_lemma => kernel_rfl) (by as_aux_lemma => kernel_rfl) (fun _ _ _ h => h) (Or.inr ⟨by kernel_rfl, rfl⟩) hS ?_
          simp only [Act.put, List.getElem_toArray, List.getElem_cons_zero, List.getElem_cons_succ, List.setIfInBounds_toArray, List.set_cons_zero, List.set_cons_succ]
          refine wpAnyH_take (i := 16) (v := (.bool false)) rfl (by as_aux_lemma => kernel_rfl) (by as_aux_lemma => kernel_rfl) (by as_aux_lemma => kernel_rfl) (fun _ _ _ h => h) (Or.inl ⟨by kernel_rfl, ?_⟩) hS ?_
          · intro w hSw; (try dsimp only at hSw); go_simp
          simp only [Act.put, List.getElem_toArray, List.getElem_cons_zero, List.getElem_cons_succ, List.setIfInBounds_toArray, List.set_cons_zero, List.set_cons_succ]
          refine wpAnyH_done (by kernel_rfl) ?_ _
          clear hS
          go_wp2
          go_roundw
          case rel => exact ⟨k + 1, [] ++ x :: (q ++ rest), by omega, by go_num, HP2.out, by
            have : ([] ++ x :: (q ++ rest)).take (k + 1) = [] ++ x :: q := by simp [hql]
            rw [this]; exact HUP.out, ⟨HRZ2.out.1, HRZ2.out.2⟩, hbw2.drew⟩
          case measure => simp [intOf]; omega
        · rw [List.concat_eq_append] at hpe
          subst hpe
          have hlist : (p' ++ [y]) ++ x :: (q ++ rest) = p' ++ y :: x :: (q ++ rest) := by simp
          rw [hlist] at hrz hpz hlen
          have hjl : (p' ++ [y]).length = p'.length + 1 := by simp
          rw [hjl] at hpq ⊢
          have hxB : x ∈ B := hpz.mem_iff.1 (by simp)
          have hyB : y ∈ B := hpz.mem_iff.1 (by simp)
          have hne : x.turn ≠ y.turn := by
            have := (hpz.map (·.turn)).nodup_iff.2 hB
            rw [List.map_append, List.nodup_append] at this
            have h2 := this.2.1
            simp only [List.map_cons, List.nodup_cons, List.mem_cons, not_or] at h2
            exact fun e => h2.1.1 e.symm
          have hgy : (p' ++ y :: x :: (q ++ rest))[p'.length]? = some y := by simp
          have hgx : (p' ++ y :: x :: (q ++ rest))[p'.length + 1]? = some x := by
            rw [List.getElem?_append_right (by omega)]
            simp
          have cy0 := OwnR.cell (f := 0) (keyE_len U) hrz hgy rfl
          have cy1 := OwnR.cell (f := 1) (keyE_len U) hrz hgy rfl
          have cx0 := OwnR.cell (f := 0) (keyE_len U) hrz hgx rfl
          have cx1 := OwnR.cell (f := 1) (keyE_len U) hrz hgx rfl
          rw [Nat.add_zero] at cy0 cx0
          have hjn : p'.length + 1 < n := by rw [← hlen]; simp
          have fr := fun i => hrz.frozen i
          have hswap := swap_at p' x y (q ++ rest)
          have hus : Up (p' ++ (y :: q)) := by simpa using hup
          have HUS : Hid (Up (p' ++ (y :: q))) := hus
          have HUL : Hid (Up (p' ++ [y])) := by
            have : Up ((p' ++ [y]) ++ q) := hup
            exact (List.pairwise_append.1 this).1
          have HUA : Hid (Up ((p' ++ [y]) ++ q)) := hup
          have HSW : Hid _ := hswap
          have HGY : Hid _ := hgy
          have HGX : Hid _ := hgx
          have HRZ2 : Hid (OwnR (keyE U) 2 95 wr base (.slice (some ⟨g, 0, none⟩) n cap) n (p' ++ y :: x :: (q ++ rest))) := hrz
          have HP2 : Hid ((p' ++ y :: x :: (q ++ rest)).Perm B) := hpz
          have HP3 : Hid ((p' ++ x :: y :: (q ++ rest)).Perm B) := ((List.Perm.swap y x (q ++ rest)).append_left p').trans hpz
          have HQ : Hid (∀ a ∈ q, x.turn < a.turn) := hq
          clear hlist hrz hpz hup hus hgy hgx hswap hq hjl
          have hgx2 : g < wr.heap.size := (HRZ2.out.lt g rfl).2
          generalize hj : p'.length = j at *
          obtain ⟨J, hJ⟩ : ∃ J, j + 1 = J := ⟨_, rfl⟩
          rw [hJ] at cx0 cx1 hjn hpq HGX HSW ⊢
          have hjpos : (0 : Int) < (J : Int) := by omega
          have hsub : (J : Int) - 1 = (j : Int) := by omega
          have hjn0 : j < n := by omega
          have hjp : 0 < J := by omega
          have hwj : IntKind.i64.wrap (j : Int) = (j : Int) := by rw [IntKind.wrap_i64] <;> omega
          go_wp2
          refine wp_region_held_drew (S := fun w' => w'.cell? ⟨g, J * 2, none⟩ = some (.int .i64 U) ∧ w'.cell? ⟨g, J * 2 + 1, none⟩ = some (.int .i64 x.num) ∧ w'.cell? ⟨g, j * 2, none⟩ = some (.int .i64 U) ∧ w'.cell? ⟨g, j * 2 + 1, none⟩ = some (.int .i64 y.num)) (by kernel_rfl) (by exact ⟨cx0, cx1, cy0, cy1⟩) (fun hS => ?_)
          refine wpAnyH_take (i := 0) (v := (.int .i64 (J : Int))) rfl (by as_aux_lemma => kernel_rfl) (by as_aux_lemma => kernel_rfl) (by as_aux_lemma => kernel_rfl) (fun _ _ _ h => h) (Or.inl ⟨by kernel_rfl, ?_⟩) hS ?_
          · intro w hSw; (try dsimp only at hSw); go_simp
          simp only [Act.put, List.getElem_toArray, List.getElem_cons_zero, List.getElem_cons_succ, List.setIfInBounds_toArray, List.set_cons_zero, List.set_cons_succ]
          refine wpAnyH_take (i := 1) (v := (.int .i64 0)) rfl (by as_aux_lemma => kernel_rfl) (by as_aux_lemma => kernel_rfl) (by as_aux_lemma => kernel_rfl) (fun _ _ _ h => h) (Or.inl ⟨by kernel_rfl, ?_⟩) hS ?_
          · intro w hSw; (try dsimp only at hSw); go_simp
          simp only [Act.put, List.getElem_toArray, List.getElem_cons_zero, List.getElem_cons_succ, List.setIfInBounds_toArray, List.set_cons_zero, List.set_cons_succ]
          refine wpAnyH_take (i := 2) (v := (.bool true)) rfl (by as_aux_lemma => kernel_rfl) (by as_aux_lemma => kernel_rfl) (by as_aux_lemma => kernel_rfl) (fun _ _ _ h => h) (Or.inl ⟨by kernel_rfl, ?_⟩) hS ?_
          · intro w hSw; (try dsimp only at hSw); go_simp
          simp only [Act.put, List.getElem_toArray, List.getElem_cons_zero, List.getElem_cons_succ, List.setIfInBounds_toArray, List.set_cons_zero, List.set_cons_succ]
          refine wpAnyH_take (i := 3) (v := (.bool true)) rfl (by as_aux_lemma => kernel_rfl) (by as_aux_lemma => kernel_rfl) (by as_aux_lemma => kernel_rfl) (fun _ _ _ h => h) (Or.inl ⟨by kernel_rfl, ?_⟩) hS ?_
          · intro w hSw; (try dsimp only at hSw); go_simp
          simp only [Act.put, List.getElem_toArray, List.getElem_cons_zero, List.getElem_cons_succ, List.setIfInBounds_toArray, List.set_cons_zero, List.set_cons_succ]
          refine wpAnyH_take (i := 4) (v := (.func (.func 88) #[] #[.pointer (some ⟨Bs, 0, none⟩)])) rfl (by as_aux_lemma => kernel_rfl) (by as_aux_lemma => kernel_rfl) (by as_aux_lemma => kernel_rfl) (fun _ _ _ h => h) (Or.inl ⟨by kernel_rfl, ?_⟩) hS ?_
          · intro w hSw; (try dsimp only at hSw); go_simp
          simp only [Act.put, List.getElem_toArray, List.getElem_cons_zero, List.getElem_cons_succ, List.setIfInBounds_toArray, List.set_cons_zero, List.set_cons_succ]
          refine wpAnyH_take (i := 5) (v := (.slice (some ⟨g, 0, none⟩) n cap)) rfl (by as_aux_lemma => kernel_rfl) (by as_aux_lemma => kernel_rfl) (by as_aux_lemma => kernel_rfl) (fun _ _ _ h => h) (Or.inl ⟨by kernel_rfl, ?_⟩) hS ?_
          · intro w hSw; (try dsimp only at hSw); go_simp
          simp only [Act.put, List.getElem_toArray, List.getElem_cons_zero, List.getElem_cons_succ, List.setIfInBounds_toArray, List.set_cons_zero, List.set_cons_succ]
          refine wpAnyH_take (i := 6) (v := (.int .i64 (J : Int))) rfl (by as_aux_lemma => kernel_rfl) (by as_aux_lemma => kernel_rfl) (by as_aux_lemma => kernel_rfl) (fun _ _ _ h => h) (Or.inl ⟨by kernel_rfl, ?_⟩) hS ?_
          · intro w hSw; (try dsimp only at hSw); go_simp
          simp only [Act.put, List.getElem_toArray, List.getElem_cons_zero, List.getElem_cons_succ, List.setIfInBounds_toArray, List.set_cons_zero, List.set_cons_succ]
          refine wpAnyH_take (i := 7) (v := (.pointer (some ⟨g, J * 2, none⟩))) rfl (by as_aux_lemma => kernel_rfl) (by as_aux_lemma => kernel_rfl) (by as_aux_lemma => kernel_rfl) (fun _ _ _ h => h) (Or.inl ⟨by kernel_rfl, ?_⟩) hS ?_
          · intro w hSw; (try dsimp only at hSw); go_simp
          simp only [Act.put, List.getElem_toArray, List.getElem_cons_zero, List.getElem_cons_succ, List.setIfInBounds_toArray, List.set_cons_zero, List.set_cons_succ]
          refine wpAnyH_take (i := 8) (v := (.agg #[.int .i64 U, .int .i64 x.num])) rfl (by as_aux_lemma => kernel_rfl) (by as_aux_lemma => kernel_rfl) (by as_aux_lemma => kernel_rfl) (fun _ _ _ h => h) (Or.inl ⟨by kernel_rfl, ?_⟩) hS ?_
          · intro w hSw; (try dsimp only at hSw); go_simp
          simp only [Act.put, List.getElem_toArray, List.getElem_cons_zero, List.getElem_cons_succ, List.setIfInBounds_toArray, List.set_cons_zero, List.set_cons_succ]
          refine wpAnyH_take (i := 9) (v := (.slice (some ⟨g, 0, none⟩) n cap)) rfl (by as_aux_lemma => kernel_rfl) (by as_aux_lemma => kernel_rfl) (by as_aux_lemma => kernel_rfl) (fun _ _ _ h => h) (Or.inl ⟨by kernel_rfl, ?_⟩) hS ?_
          · intro w hSw; (try dsimp only at hSw); go_simp
          simp only [Act.put, List.getElem_toArray, List.getElem_cons_zero, List.getElem_cons_succ, List.setIfInBounds_toArray, List.set_cons_zero, List.set_cons_succ]
          refine wpAnyH_take (i := 10) (v := (.int .i64 (J : Int))) rfl (by as_aux_lemma => kernel_rfl) (by as_aux_lemma => kernel_rfl) (by as_aux_lemma => kernel_rfl) (fun _ _ _ h => h) (Or.inl ⟨by kernel_rfl, ?_⟩) hS ?_
          · intro w hSw; (try dsimp only at hSw); go_simp
          simp only [Act.put, List.getElem_toArray, List.getElem_cons_zero, List.getElem_cons_succ, List.setIfInBounds_toArray, List.set_cons_zero, List.set_cons_succ]
          refine wpAnyH_take (i := 11) (v := (.int .i64 (j : Int))) rfl (by as_aux_lemma => kernel_rfl) (by as_aux_lemma => kernel_rfl) (by as_aux_lemma => kernel_rfl) (fun _ _ _ h => h) (Or.inl ⟨by kernel_rfl, ?_⟩) hS ?_
          · intro w hSw; (try dsimp only at hSw); go_simp
          simp only [Act.put, List.getElem_toArray, List.getElem_cons_zero, List.getElem_cons_succ, List.setIfInBounds_toArray, List.set_cons_zero, List.set_cons_succ]
          refine wpAnyH_take (i := 12) (v := (.pointer (some ⟨g, j * 2, none⟩))) rfl (by as_aux_lemma => kernel_rfl) (by as_aux_lemma => kernel_rfl) (by as_aux_lemma => kernel_rfl) (fun _ _ _ h => h) (Or.inl ⟨by kernel_rfl, ?_⟩) hS ?_
          · intro w hSw; (try dsimp only at hSw); go_simp
          simp only [Act.put, List.getElem_toArray, List.getElem_cons_zero, List.getElem_cons_succ, List.setIfInBounds_toArray, List.set_cons_zero, List.set_cons_succ]
          refine wpAnyH_take (i := 13) (v := (.agg #[.int .i64 U, .int .i64 y.num])) rfl (by as_aux_lemma => kernel_rfl) (by as_aux_lemma => kernel_rfl) (by as_aux_lemma => kernel_rfl) (fun _ _ _ h => h) (Or.inl ⟨by kernel_rfl, ?_⟩) hS ?_
          · intro w hSw; (try dsimp only at hSw); go_simp
          simp only [Act.put, List.getElem_toArray, List.getElem_cons_zero, List.getElem_cons_succ, List.setIfInBounds_toArray, List.set_cons_zero, List.set_cons_succ]
          refine wpAnyH_ready (rs := [14]) (by as_aux_lemma => kernel_rfl) (by simp) ?_
          refine AllReadyH.cons rfl (fun K hK => ?_) AllReadyH.nil
          go_simp
          refine (cacheCmp_any U bm Bs B x y wr.drew hxB hyB hcs hcm (howr.below (Below.refl _ _).drew)).mono ?_
          rintro e w2 ⟨rfl, hb2⟩
          refine hK.out _ _ ⟨cell_later hb2 hS.1, cell_later hb2 hS.2.1, cell_later hb2 hS.2.2.1, cell_later hb2 hS.2.2.2⟩ (fun hS => ?_)
          clear hK K
          have hb02 : Below base w w2 := hbw2.drew.trans (hb2.mono hbase2)
          have HR3 : Hid (OwnR (keyE U) 2 95 w2 base (.slice (some ⟨g, 0, none⟩) n cap) n (p' ++ y :: x :: (q ++ rest))) := HRZ2.out.below ((Below.refl _ _).drew.trans hb2)
          obtain ⟨d0, d1, d2, d3⟩ := hS
          have hS := (show w2.cell? ⟨g, J * 2, none⟩ = some (.int .i64 U) ∧ w2.cell? ⟨g, J * 2 + 1, none⟩ = some (.int .i64 x.num) ∧ w2.cell? ⟨g, j * 2, none⟩ = some (.int .i64 U) ∧ w2.cell? ⟨g, j * 2 + 1, none⟩ = some (.int .i64 y.num) from ⟨d0, d1, d2, d3⟩)
          by_cases hxy : x.turn < y.turn
          · have ec : cmpT x.turn y.turn = -1 := by unfold cmpT; rw [if_pos hxy]
            rw [ec]
            refine wpAnyH_take (i := 15) (v := (.bool true)) rfl (by as_aux_lemma => kernel_rfl) (by as_aux_lemma => kernel_rfl) (by as_aux_lemma => kernel_rfl) (fun _ _ _ h => h) (Or.inl ⟨by kernel_rfl, ?_⟩) hS ?_
            · intro w hSw; (try dsimp only at hSw); go_simp
            simp only [Act.put, List.getElem_toArray, List.getElem_cons_zero, List.getElem_cons_succ, List.setIfInBounds_toArray, List.set_cons_zero, List.set_cons_succ]
            refine wpAnyH_take (i := 16) (v := (.bool true)) rfl (by as_aux_lemma => kernel_rfl) (by as_aux_lemma => kernel_rfl) (by as_aux_lemma => kernel_rfl) (fun _ _ _ h => h) (Or.inl ⟨by kernel_rfl, ?_⟩) hS ?_
            · intro w hSw; (try dsimp only at hSw); go_simp
            simp only [Act.put, List.getElem_toArray, List.getElem_cons_zero, List.getElem_cons_succ, List.setIfInBounds_toArray, List.set_cons_zero, List.set_cons_succ]
            refine wpAnyH_done (by kernel_rfl) ?_ _
            clear hS
            have f0 := HR3.out.frozen (J * 2)
            have f1 := HR3.out.frozen (J * 2 + 1)
            have f2 := HR3.out.frozen (j * 2)
            have f3 := HR3.out.frozen (j * 2 + 1)
            have s1 := storeK HR3.out HGX.out y
            have s2 := storeK s1.1 (j := j) (x := y) (by rw [List.getElem?_set_ne (by omega)]; exact HGY.out) x
            rw [HSW.out] at s2
            have HS2 : Hid _ := s2.1
            have HG2 : Hid _ := grownBy_trans s1.2 s2.2
            clear s1 s2
            go_wp2
            go_region
            all_goals
              go_wp2
              go_roundw
              case rel => exact ⟨p', y :: q, rest, x, by rw [hj], by simp; omega, by simpa using HP3.out, HUS.out, fun a ha => by
                rcases List.mem_cons.1 ha with rfl | ha
                · exact hxy
                · exact HQ.out a ha, by
                have hd := OwnR.below HS2.out ((Below.refl _ _).drew)
                simpa using hd, (hb02.grown HG2.out (Nat.le_trans hbase hb02.size) (fun i hi => by cases hi; exact hg)).drew⟩
              case measure => simp [intOf]; omega
          · have ec : cmpT x.turn y.turn = 1 := by unfold cmpT; rw [if_neg hxy, if_pos (by omega)]
            rw [ec]
            refine wpAnyH_take (i := 15) (v := (.bool false)) rfl (by as_aux_lemma => kernel_rfl) (by as_aux_lemma => kernel_rfl) (by as_aux_lemma => kernel_rfl) (fun _ _ _ h => h) (Or.inl ⟨by kernel_rfl, ?_⟩) hS ?_
            · intro w hSw; (try dsimp only at hSw); go_simp
            simp only [Act.put, List.getElem_toArray, List.getElem_cons_zero, List.getElem_cons_succ, List.setIfInBounds_toArray, List.set_cons_zero, List.set_cons_succ]
            refine wpAnyH_take (i := 16) (v := (.bool false)) rfl (by as_aux_lemma => kernel_rfl) (by as_aux_lemma => kernel_rfl) (by as_aux_lemma => kernel_rfl) (fun _ _ _ h => h) (Or.inl ⟨by kernel_rfl, ?_⟩) hS ?_
            · intro w hSw; (try dsimp only at hSw); go_simp
            simp only [Act.put, List.getElem_toArray, List.getElem_cons_zero, List.getElem_cons_succ, List.setIfInBounds_toArray, List.set_cons_zero, List.set_cons_succ]
            refine wpAnyH_done (by kernel_rfl) ?_ _
            clear hS
            have HUP : Hid (Up ((p' ++ [y]) ++ x :: q)) := up_insert HUA.out (up_last HUL.out (by omega)) HQ.out
            go_wp2
            go_roundw
            case rel => exact ⟨k + 1, p' ++ y :: x :: (q ++ rest), by omega, by go_num, HP2.out, by
              have : (p' ++ y :: x :: (q ++ rest)).take (k + 1) = (p' ++ [y]) ++ x :: q := by
                have e1 : p' ++ y :: x :: (q ++ rest) = ((p' ++ [y]) ++ x :: q) ++ rest := by simp
                rw [e1, List.take_append_of_le_length (by simp; omega), List.take_of_length_le (by simp; omega)]
              rw [this]; exact HUP.out, HR3.out, hb02⟩
            case measure => simp [intOf]; omega
    · go_wp2
      go_end0
      exact ⟨rfl, ⟨zs, hpz, by rw [List.take_of_length_le (by omega)] at hup; exact hup, hrz⟩, hbw⟩
end Go.Proofs.Ytckkkhabjfbngaa
