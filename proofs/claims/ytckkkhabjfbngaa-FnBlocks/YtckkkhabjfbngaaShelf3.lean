/-
  The shelf forgets.
-/
import Derived.Test.YtckkkhabjfbngaaShelf1
namespace Go.Proofs.Ytckkkhabjfbngaa
open Go.RowKit Go.ChangeMaps Go.MapKept
set_option linter.unusedVariables false
set_option linter.unusedSimpArgs false

/-- What is there, and what is still to come. -/
def keptE (E left : List En) (num : Int) : List En := E.filter fun e => decide (e.num < num) || decide (e.num ∈ left.map (·.num))

theorem keptE_all (E : List En) (num : Int) : keptE E E num = E := by
  unfold keptE
  refine List.filter_eq_self.2 (fun e he => ?_)
  have : e.num ∈ E.map (·.num) := List.mem_map.2 ⟨e, he, rfl⟩
  simp only [this, decide_true, Bool.or_true]

theorem keptE_none (E : List En) (num : Int) : keptE E [] num = E.filter fun e => decide (e.num < num) := by
  unfold keptE
  simp

theorem keptE_drop {E left rest : List En} {e : En} {num : Int} (hp : left.Perm (e :: rest)) (hn : (left.map (·.num)).Nodup) (hge : ¬ e.num < num) : butN (keptE E left num) e.num = keptE E rest num ∧ butN rest e.num = rest := by
  have hn2 := (hp.map (·.num)).nodup_iff.1 hn
  rw [List.map_cons, List.nodup_cons] at hn2
  have hm : ∀ x : Int, x ∈ left.map (·.num) ↔ x = e.num ∨ x ∈ rest.map (·.num) := fun x => by
    rw [(hp.map (·.num)).mem_iff, List.map_cons, List.mem_cons]
  constructor
  · unfold butN keptE
    rw [List.filter_filter]
    refine List.filter_congr (fun x _ => ?_)
    rw [Bool.eq_iff_iff]
    simp only [Bool.and_eq_true, Bool.or_eq_true, decide_eq_true_eq, hm]
    constructor
    · rintro ⟨h1, h2 | h2 | h2⟩
      · exact .inl h2
      · exact absurd h2 h1
      · exact .inr h2
    · rintro (h | h)
      · exact ⟨fun q => hge (by rw [← q]; exact h), .inl h⟩
      · exact ⟨fun q => hn2.1 (by rw [← q]; exact h), .inr (.inr h)⟩
  · unfold butN
    refine List.filter_eq_self.2 (fun x hx => ?_)
    simp only [decide_eq_true_eq]
    intro q
    exact hn2.1 (by rw [← q]; exact List.mem_map.2 ⟨x, hx, rfl⟩)

theorem keptE_keep {E left rest : List En} {e : En} {num : Int} (hp : left.Perm (e :: rest)) (hge : e.num < num) : keptE E left num = keptE E rest num := by
  have hm : ∀ x : Int, x ∈ left.map (·.num) ↔ x = e.num ∨ x ∈ rest.map (·.num) := fun x => by
    rw [(hp.map (·.num)).mem_iff, List.map_cons, List.mem_cons]
  unfold keptE
  refine List.filter_congr (fun x _ => ?_)
  rw [Bool.eq_iff_iff]
  simp only [Bool.or_eq_true, decide_eq_true_eq, hm]
  constructor
  · rintro (h | h | h)
    · exact .inl h
    · exact .inl (by rw [h]; exact hge)
    · exact .inr h
  · rintro (h | h)
    · exact .inl h
    · exact .inr (.inr h)

theorem chg_new {lo hi r : Nat} {w w1 w2 : World} (h : Chg lo hi w w1) (hg : w1.grownBy w2 (some r)) (hr : w.heap.size ≤ r) : Chg lo hi w w2 :=
  ⟨hg.os.trans h.os, hg.tape.trans h.tape, hg.output.trans h.output, Nat.le_trans h.size hg.size, fun k hk ho => (hg.block k (Nat.lt_of_lt_of_le hk h.size) (by simp; omega)).trans (h.block k hk ho)⟩
theorem left_eq_of {U : Int} {w : World} {b r : Nat} {B left : List En} (h : OwnG U w b r B left) : w.rangeLeft b r = left.length := h.left_eq

set_option maxHeartbeats 1600000 in
set_option maxRecDepth 20000 in
theorem forget_any (bm : Nat) (U Z T num : Int) (E : List En) (bs : List Bk) (w : World) (h : Shelf bm U Z T w E bs) (hko : ∀ e ∈ E, KeyOk U e.num) :
    Calls Try.prog 64 #[.pointer (some ⟨bm + 1, 0, none⟩), .int .i64 num] w fun e w' => e = .returned (.tuple #[]) ∧ Shelf bm U Z T w' (E.filter fun e => decide (e.num < num)) (bs.filter fun b => decide (b.1 < num)) ∧ Chg bm (bm + 2) w w' := by
  have hlt := h.blk.lt
  have g3 := h.blk.cell 3
  simp at g3
  have hnd := h.own.nodup
  obtain ⟨W1, hrg, hG1, hb1, hz1⟩ := h.own.range
  have blk1 : Blk W1 (bm + 1) #[.int .i64 U, .int .i64 Z, .int .i64 T, .map (some bm)] 121 := (hb1.block (bm + 1) hlt).trans h.blk
  have hC1 : Chg bm (bm + 1) w W1 := Chg.of_below hb1
  have HH : Hid (Shelf bm U Z T w E bs) := h
  clear h
  go_enter Try.func64, Try.ntmps64
  go_wp2
  go_loopw [] (fun wr => ∃ left : List En, (left.map (·.num)).Nodup ∧ (∀ x ∈ left, x ∈ E) ∧ OwnG U wr bm w.heap.size (keptE E left num) left ∧ Blk wr (bm + 1) #[.int .i64 U, .int .i64 Z, .int .i64 T, .map (some bm)] 121 ∧ Chg bm (bm + 1) w wr) (fun wr => wr.rangeLeft bm w.heap.size)
  case atStart => exact ⟨E, hnd, fun x hx => hx, by rw [keptE_all]; exact hG1, blk1, hC1⟩
  case round =>
    obtain ⟨left, hn, hsub, hG, hblk, hC⟩ := hrel
    clear hG1 blk1 hC1
    have hlw := hblk.lt
    have hrl := hG.lt
    have hlq := hG.left_eq
    rcases hG.next 0 with ⟨hl0, hrun⟩ | ⟨e, rest, w2, hp, he, hrun, hG2, hgr, hz, hent⟩
    · subst hl0
      have fin : Shelf bm U Z T wr (E.filter fun e => decide (e.num < num)) (bs.filter fun b => decide (b.1 < num)) := by
        have ho := hG.owns
        rw [keptE_none] at ho
        refine ⟨ho, hblk, (HH.out.hold.chg hC (Nat.le_refl _) (by omega)).filter (fun x => decide (x < num)), HH.out.up.filter _, fun e he => HH.out.turns e ((List.mem_filter.1 he).1), HH.out.T0, HH.out.T1⟩
      have HF : Hid _ := fin
      clear fin hG
      go_wp2
      exact bodyPost_end (v := .tuple #[]) (by simp [results, Try.results64, go_sem]) rfl ⟨rfl, HF.out, hC.mono (Nat.le_refl _) (by omega)⟩
    · simp only [kv, hv] at hrun hent
      have heE : e ∈ E := hsub e (hp.mem_iff.2 List.mem_cons_self)
      have hkk := hko e heE
      have hpl := hp.length_eq
      have hblk2 := hblk.kept hgr (by simp; omega)
      have hC2 : Chg bm (bm + 1) w w2 := chg_new hC hgr (Nat.le_refl _)
      have hmr := left_eq_of hG2
      have hn2 := (hp.map (·.num)).nodup_iff.1 hn
      rw [List.map_cons, List.nodup_cons] at hn2
      have hs2 : ∀ x ∈ rest, x ∈ E := fun x hx => hsub x (hp.mem_iff.2 (List.mem_cons_of_mem _ hx))
      have hz2 : w.heap.size < w2.heap.size := by omega
      have hB2 : ∀ o, Below w2.heap.size w2 (w2.alloc o) := fun o => (Below.refl _ _).alloc (Nat.le_refl _) o
      have hC3 : ∀ o, Chg bm (bm + 1) w (w2.alloc o) := fun o => hC2.alloc o
      have hL : left.length = rest.length + 1 := by simpa using hpl
      have s3 := hblk2.cell 3
      simp at s3
      have hbm2 : bm < w2.heap.size := by omega
      have hbm3 : bm + 1 < w2.heap.size := by omega
      clear hpl he hz
      by_cases hlt2 : e.num < num
      · rw [keptE_keep hp hlt2] at hG2
        have hlt3 : ¬ num ≤ e.num := by omega
        have hGa : ∀ o, OwnG U (w2.alloc o) bm w.heap.size (keptE E rest num) rest := fun o => hG2.below (hB2 o)
        have HGA : Hid _ := hGa
        clear hG hG2 hGa hp hsub
        go_wp2
        go_roundw
        case rel => exact ⟨rest, hn2.2, hs2, HGA.out _, hblk2.alloc _, hC3 _⟩
        case measure => rw [hlq, left_eq_of (HGA.out _)]; omega
      · obtain ⟨hd1, hd2⟩ := keptE_drop (E := E) hp hn hlt2
        have hlt3 : num ≤ e.num := by omega
        obtain ⟨W3, hW3⟩ : ∃ W3, W3 = w2.alloc (Obj.cells #[Value.int .i64 U, Value.int .i64 e.num] 95) := ⟨_, rfl⟩
        have hG3 : OwnG U W3 bm w.heap.size (keptE E left num) rest := by rw [hW3]; exact hG2.below (hB2 _)
        have hblk3 : Blk W3 (bm + 1) #[.int .i64 U, .int .i64 Z, .int .i64 T, .map (some bm)] 121 := by rw [hW3]; exact hblk2.alloc _
        have hC4 : Chg bm (bm + 1) w W3 := by rw [hW3]; exact hC3 _
        have k0 : W3.cell? ⟨w2.heap.size, 0, none⟩ = some (.int .i64 U) := by rw [hW3]; simp
        have k1 : W3.cell? ⟨w2.heap.size, 1, none⟩ = some (.int .i64 e.num) := by rw [hW3]; simp
        have s3' := hblk3.cell 3
        simp at s3'
        obtain ⟨W4, hdel, hG4, hg4, hz4⟩ := OwnG.drop (w := W3.drew) (by exact hG3) hkk 0
        rw [hd1, hd2] at hG4
        simp only [kv] at hdel
        have hblk4 : Blk W4 (bm + 1) #[.int .i64 U, .int .i64 Z, .int .i64 T, .map (some bm)] 121 := Blk.kept (W := W3.drew) (by exact hblk3) hg4 (by simp)
        have hC5 : Chg bm (bm + 1) w W4 := hC4.trans (Chg.one (grown_undrew hg4))
        have q0 := fun {B i : Nat} {v : Value} (hn : B ≠ bm) (hx : W3.drew.cell? ⟨B, i, none⟩ = some v) => cell_of_grown hg4 hn hx
        have HG4 : Hid _ := hG4
        clear hG hG2 hG3 hG4 hp hsub hd1 hd2 hz4
        go_wp2_with fail
        rw [← hW3]
        clear hW3
        refine wp_region_held_drew (S := fun w' => w'.cell? ⟨bm + 1, 3, none⟩ = some (.map (some bm)) ∧ w'.cell? ⟨w2.heap.size, 0, none⟩ = some (.int .i64 U) ∧ w'.cell? ⟨w2.heap.size, 1, none⟩ = some (.int .i64 e.num)) (by kernel_rfl) (by exact ⟨s3', k0, k1⟩) (fun hS => ?_)
        refine wpAnyH_take (i := 0) (v := (.pointer (some ⟨bm + 1, 0, none⟩))) rfl (by as_aux_lemma => kernel_rfl) (by as_aux_lemma => kernel_rfl) (by as_aux_lemma => kernel_rfl) (fun _ _ _ h => h) (Or.inl ⟨by kernel_rfl, ?_⟩) hS ?_
        · intro w hSw; (try dsimp only at hSw); go_simp
        simp only [Act.put, List.getElem_toArray, List.getElem_cons_zero, List.getElem_cons_succ, List.setIfInBounds_toArray, List.set_cons_zero, List.set_cons_succ]
        refine wpAnyH_take (i := 1) (v := (.pointer (some ⟨bm + 1, 0, none⟩))) rfl (by as_aux_lemma => kernel_rfl) (by as_aux_lemma => kernel_rfl) (by as_aux_lemma => kernel_rfl) (fun _ _ _ h => h) (Or.inl ⟨by kernel_rfl, ?_⟩) hS ?_
        · intro w hSw; (try dsimp only at hSw); go_simp
        simp only [Act.put, List.getElem_toArray, List.getElem_cons_zero, List.getElem_cons_succ, List.setIfInBounds_toArray, List.set_cons_zero, List.set_cons_succ]
        refine wpAnyH_take (i := 2) (v := (.pointer (some ⟨bm + 1, 3, none⟩))) rfl (by as_aux_lemma => kernel_rfl) (by as_aux_lemma => kernel_rfl) (by as_aux_lemma => kernel_rfl) (fun _ _ _ h => h) (Or.inl ⟨by kernel_rfl, ?_⟩) hS ?_
        · intro w hSw; (try dsimp only at hSw); go_simp
        simp only [Act.put, List.getElem_toArray, List.getElem_cons_zero, List.getElem_cons_succ, List.setIfInBounds_toArray, List.set_cons_zero, List.set_cons_succ]
        refine wpAnyH_take (i := 3) (v := (.map (some bm))) rfl (by as_aux_lemma => kernel_rfl) (by as_aux_lemma => kernel_rfl) (by as_aux_lemma => kernel_rfl) (fun _ _ _ h => h) (Or.inl ⟨by kernel_rfl, ?_⟩) hS ?_
        · intro w hSw; (try dsimp only at hSw); go_simp
        simp only [Act.put, List.getElem_toArray, List.getElem_cons_zero, List.getElem_cons_succ, List.setIfInBounds_toArray, List.set_cons_zero, List.set_cons_succ]
        refine wpAnyH_take (i := 4) (v := (.agg #[.int .i64 U, .int .i64 e.num])) rfl (by as_aux_lemma => kernel_rfl) (by as_aux_lemma => kernel_rfl) (by as_aux_lemma => kernel_rfl) (fun _ _ _ h => h) (Or.inl ⟨by kernel_rfl, ?_⟩) hS ?_
        · intro w hSw; (try dsimp only at hSw); go_simp
        simp only [Act.put, List.getElem_toArray, List.getElem_cons_zero, List.getElem_cons_succ, List.setIfInBounds_toArray, List.set_cons_zero, List.set_cons_succ]
        refine wpAnyH_ready (rs := [5]) (by as_aux_lemma => kernel_rfl) (by simp) ?_
        refine AllReadyH.cons rfl (fun K hK => ?_) AllReadyH.nil
        go_simp
        refine hK.out _ _ ⟨q0 (by omega) hS.1, q0 (by omega) hS.2.1, q0 (by omega) hS.2.2⟩ (fun hS => ?_)
        clear hK K
        refine wpAnyH_done (by kernel_rfl) ?_ _
        clear hS
        go_wp2
        go_roundw
        case rel => exact ⟨rest, hn2.2, hs2, HG4.out, hblk4, hC5⟩
        case measure => rw [hlq, left_eq_of HG4.out]; omega
end Go.Proofs.Ytckkkhabjfbngaa
