/-
  The shelf: what it holds; put.
-/
import Derived.Test.YtckkkhabjfbngaaSort4
import Derived.Test.YtckkkhabjfbngaaBox
import Derived.Test.YtckkkhabjfbngaaCache2
import Derived.Deep.RegionHeld3
namespace Go.Proofs.Ytckkkhabjfbngaa
open Go.RowKit Go.ChangeMaps Go.MapKept
set_option linter.unusedVariables false
set_option linter.unusedSimpArgs false

theorem grownT {w1 w2 w3 : World} {row : Option Nat} (h : w1.grownBy w2 row) (k : w2.grownBy w3 row) : w1.grownBy w3 row :=
  ⟨k.os.trans h.os, k.tape.trans h.tape, k.output.trans h.output, Nat.le_trans h.size k.size, fun i hi hr => (k.block i (Nat.lt_of_lt_of_le hi h.size) hr).trans (h.block i hi hr)⟩
theorem grown_undrew {w w' : World} {row : Option Nat} (h : w.drew.grownBy w' row) : w.grownBy w' row := ⟨h.os, h.tape, h.output, h.size, h.block⟩
theorem cell_of_grown {w w' : World} {b : Nat} (hg : w.grownBy w' (some b)) {B i : Nat} {v : Value} (hne : B ≠ b) (h : w.cell? ⟨B, i, none⟩ = some v) : w'.cell? ⟨B, i, none⟩ = some v :=
  (Chg.one hg).at h (block_lt_of_cell h) (by omega)

/-- The entries' bytes read as the blocks' bytes; they lie elsewhere than the shelf. -/
def HoldE (bm : Nat) (w : World) (E : List En) (bs : List Bk) : Prop :=
  E.length = bs.length ∧ ∀ (j : Nat) (e : En) (b : Bk), E[j]? = some e → bs[j]? = some b → e.num = b.1 ∧ ∃ a c, e.v = .slice a b.2.length c ∧ Rd .u8 w a b.2.length b.2 ∧ b.2.length ≤ c ∧ c ≤ maxLen ∧ ∀ ad, a = some ad → b.2.length = 0 ∨ ad.block < bm ∨ bm + 2 ≤ ad.block

theorem rd_chg {k : IntKind} {w w' : World} {a : Option Addr} {n lo hi : Nat} {xs : List Int} (h : Rd k w a n xs) (hc : Chg lo hi w w') (hd : ∀ ad, a = some ad → n = 0 ∨ ad.block < lo ∨ hi ≤ ad.block) : Rd k w' a n xs := by
  refine ⟨h.1, ?_⟩
  rcases h.2 with h0 | ⟨b, off, rfl, hcell⟩
  · exact .inl h0
  · by_cases hn : n = 0
    · exact .inl hn
    · refine .inr ⟨b, off, rfl, fun j hj => ?_⟩
      have hx := hcell j hj
      have hlt := block_lt_of_cell hx
      rcases hd _ rfl with h1 | h1
      · omega
      · exact hc.at hx hlt h1

theorem HoldE.chg {bm lo hi : Nat} {w w' : World} {E : List En} {bs : List Bk} (h : HoldE bm w E bs) (hc : Chg lo hi w w') (h1 : bm ≤ lo) (h2 : hi ≤ bm + 2) : HoldE bm w' E bs := by
  refine ⟨h.1, fun j e b he hb => ?_⟩
  obtain ⟨q1, a, c, q2, q3, q4, q5, q6⟩ := h.2 j e b he hb
  exact ⟨q1, a, c, q2, rd_chg q3 hc (fun ad had => by rcases q6 ad had with q | q | q; exact .inl q; exact .inr (.inl (by omega)); exact .inr (.inr (by omega))), q4, q5, q6⟩

theorem HoldE.below {bm : Nat} {w w' : World} {E : List En} {bs : List Bk} (h : HoldE bm w E bs) (hb : Below w.heap.size w w') : HoldE bm w' E bs := by
  refine ⟨h.1, fun j e b he hb' => ?_⟩
  obtain ⟨q1, a, c, q2, q3, q4, q5, q6⟩ := h.2 j e b he hb'
  exact ⟨q1, a, c, q2, q3.below hb, q4, q5, q6⟩

theorem HoldE.nil (bm : Nat) (w : World) : HoldE bm w [] [] := ⟨rfl, fun j e b h => by simp at h⟩

/-- The blocks without a number. -/
def lessB (bs : List Bk) (num : Int) : List Bk := bs.filter fun b => decide (b.1 ≠ num)

theorem HoldE.cons_inv {bm : Nat} {w : World} {e : En} {b : Bk} {E : List En} {bs : List Bk} (h : HoldE bm w (e :: E) (b :: bs)) : HoldE bm w [e] [b] ∧ HoldE bm w E bs :=
  ⟨⟨rfl, fun j e' b' h1 h2 => by
      cases j with
      | zero => simp at h1 h2; subst h1; subst h2; exact h.2 0 e b rfl rfl
      | succ j => simp at h1⟩,
    ⟨by have := h.1; simp at this; exact this, fun j e' b' h1 h2 => h.2 (j + 1) e' b' (by simpa using h1) (by simpa using h2)⟩⟩

theorem HoldE.cons {bm : Nat} {w : World} {e : En} {b : Bk} {E : List En} {bs : List Bk} (h1 : HoldE bm w [e] [b]) (h2 : HoldE bm w E bs) : HoldE bm w (e :: E) (b :: bs) := by
  refine ⟨by have := h2.1; simp; omega, fun j e' b' q1 q2 => ?_⟩
  cases j with
  | zero => simp at q1 q2; subst q1; subst q2; exact h1.2 0 e b rfl rfl
  | succ j => exact h2.2 j e' b' (by simpa using q1) (by simpa using q2)

theorem HoldE.append {bm : Nat} {w : World} : ∀ {E : List En} {bs : List Bk} {E' : List En} {bs' : List Bk}, HoldE bm w E bs → HoldE bm w E' bs' → HoldE bm w (E ++ E') (bs ++ bs')
  | [], [], _, _, _, h2 => h2
  | [], _ :: _, _, _, h1, _ => by have := h1.1; simp at this
  | _ :: _, [], _, _, h1, _ => by have := h1.1; simp at this
  | e :: E, b :: bs, E', bs', h1, h2 => by
    obtain ⟨p1, p2⟩ := h1.cons_inv
    exact p1.cons (HoldE.append p2 h2)

theorem HoldE.filter {bm : Nat} {w : World} (p : Int → Bool) : ∀ {E : List En} {bs : List Bk}, HoldE bm w E bs → HoldE bm w (E.filter fun e => p e.num) (bs.filter fun b => p b.1)
  | [], [], h => h
  | [], _ :: _, h1 => by have := h1.1; simp at this
  | _ :: _, [], h1 => by have := h1.1; simp at this
  | e :: E, b :: bs, h => by
    obtain ⟨p1, p2⟩ := h.cons_inv
    have hn := (h.2 0 e b rfl rfl).1
    have ih := HoldE.filter p p2
    rw [List.filter_cons, List.filter_cons, hn]
    split
    · exact p1.cons ih
    · exact ih

/-- The shelf at work: its map in block bm, itself behind it. -/
structure Shelf (bm : Nat) (U Z T : Int) (w : World) (E : List En) (bs : List Bk) : Prop where
  own : OwnE U w bm E
  blk : Blk w (bm + 1) #[.int .i64 U, .int .i64 Z, .int .i64 T, .map (some bm)] 121
  hold : HoldE bm w E bs
  up : Up E
  turns : ∀ e ∈ E, 1 ≤ e.turn ∧ e.turn ≤ T
  T0 : 0 ≤ T
  T1 : T ≤ 1000000

theorem Shelf.below {bm : Nat} {U Z T : Int} {w w' : World} {E : List En} {bs : List Bk} (h : Shelf bm U Z T w E bs) (hb : Below w.heap.size w w') : Shelf bm U Z T w' E bs :=
  ⟨h.own.below hb, (hb.block (bm + 1) h.blk.lt).trans h.blk, h.hold.below hb, h.up, h.turns, h.T0, h.T1⟩

theorem Up.filter {E : List En} (h : Up E) (p : En → Bool) : Up (E.filter p) := List.Pairwise.filter p h

theorem Up.snoc {E : List En} {e : En} (h : Up E) (ht : ∀ x ∈ E, x.turn < e.turn) : Up (E ++ [e]) := by
  unfold Up at *
  rw [List.pairwise_append]
  exact ⟨h, by simp, fun x hx y hy => by simp at hy; subst hy; exact ht x hx⟩

set_option maxHeartbeats 1600000 in
set_option maxRecDepth 20000 in
theorem put_any (bm : Nat) (U Z T : Int) (E : List En) (bs : List Bk) (num : Int) (a : Option Addr) (c : Nat) (xs : List Int) (w : World) (h : Shelf bm U Z T w E bs) (hok : KeyOk U num) (hr : Rd .u8 w a xs.length xs) (hc1 : xs.length ≤ c) (hc2 : c ≤ maxLen)
    (hap : ∀ ad, a = some ad → xs.length = 0 ∨ ad.block < bm ∨ bm + 2 ≤ ad.block) (hT : T < 1000000) :
    Calls Try.prog 84 #[.pointer (some ⟨bm + 1, 0, none⟩), .agg #[.int .i64 U, .int .i64 num], .slice a xs.length c] w fun e w' => e = .returned (.tuple #[]) ∧ Shelf bm U Z (T + 1) w' (butN E num ++ [⟨num, T + 1, .slice a xs.length c⟩]) (lessB bs num ++ [(num, xs)]) ∧ Chg bm (bm + 2) w w' := by
  have hlt := h.blk.lt
  have hT0 := h.T0
  have g0 := h.blk.cell 0
  have g1 := h.blk.cell 1
  have g2 := h.blk.cell 2
  have g3 := h.blk.cell 3
  have f2 := h.blk.frozen 2
  simp at g0 g1 g2 g3
  have hne : w.heap.size ≠ bm + 1 := by omega
  have hwr : IntKind.i64.wrap (T + 1) = T + 1 := by rw [IntKind.wrap_i64]; omega
  obtain ⟨W1, hW1⟩ : ∃ W1, W1 = (w.setCell ⟨bm + 1, 2, none⟩ (.int .i64 (T + 1))).alloc (Obj.cells #[Value.int .i64 U, Value.int .i64 num] 95) := ⟨_, rfl⟩
  have hg1 : w.grownBy W1 (some (bm + 1)) := by
    rw [hW1]
    exact grownT (set_grown _ _ _ _) (World.grownBy_alloc _ _ _)
  have hC1 : Chg bm (bm + 2) w W1 := (Chg.one hg1).mono (by omega) (by omega)
  have own1 : OwnE U W1 bm E := h.own.kept hg1 (by simp)
  have blk1 : Blk W1 (bm + 1) #[.int .i64 U, .int .i64 Z, .int .i64 (T + 1), .map (some bm)] 121 := by
    rw [hW1]
    exact (h.blk.set (i := 2) (.int .i64 (T + 1))).alloc _
  have hz1 : W1.heap.size = w.heap.size + 1 := by rw [hW1]; simp [World.setCell]
  have k0 : W1.cell? ⟨w.heap.size, 0, none⟩ = some (.int .i64 U) := by
    rw [hW1, World.cell?_alloc_at _ _ _ _ (by simp [World.setCell])]
    rfl
  have k1 : W1.cell? ⟨w.heap.size, 1, none⟩ = some (.int .i64 num) := by
    rw [hW1, World.cell?_alloc_at _ _ _ _ (by simp [World.setCell])]
    rfl
  have s2 := blk1.cell 2
  have s3 := blk1.cell 3
  simp at s2 s3
  obtain ⟨W2, hst, own2, hg2, hz2⟩ := OwnE.store (turn := T + 1) (v := .slice a xs.length c) (w := W1.drew) (by exact own1) hok
  simp only [kv, hv] at hst
  have blk2 : Blk W2 (bm + 1) #[.int .i64 U, .int .i64 Z, .int .i64 (T + 1), .map (some bm)] 121 := Blk.kept (W := W1.drew) (by exact blk1) hg2 (by simp)
  have hC2 : Chg bm (bm + 2) W1 W2 := Chg.mono (lo := bm) (hi := bm + 1) (Chg.one (grown_undrew hg2)) (by omega) (by omega)
  have hC := hC1.trans hC2
  have fin : Shelf bm U Z (T + 1) W2 (butN E num ++ [⟨num, T + 1, .slice a xs.length c⟩]) (lessB bs num ++ [(num, xs)]) := by
    refine ⟨own2, blk2, ?_, ?_, ?_, by omega, by omega⟩
    · have hh := h.hold.chg hC (Nat.le_refl _) (Nat.le_refl _)
      refine (hh.filter (fun x => decide (x ≠ num))).append ⟨rfl, fun j e b q1 q2 => ?_⟩
      cases j with
      | zero =>
        simp at q1 q2
        subst q1
        subst q2
        exact ⟨rfl, a, c, rfl, rd_chg hr hC hap, hc1, hc2, hap⟩
      | succ j => simp at q1
    · exact (h.up.filter _).snoc (fun x hx => by have := (h.turns x (butN_mem.1 hx).1).2; simp only; omega)
    · intro e he
      rcases List.mem_append.1 he with he | he
      · have := h.turns e (butN_mem.1 he).1
        omega
      · simp at he
        subst he
        simp only
        omega
  have q0 := fun {B i : Nat} {v : Value} (hn : B ≠ bm) (hx : W1.drew.cell? ⟨B, i, none⟩ = some v) => cell_of_grown hg2 hn hx
  have HF : Hid _ := fin
  have HC : Hid _ := hC
  clear fin hC hC1 hC2 own1 own2 blk2 hg1
  go_enter Try.func84, Try.ntmps84
  go_wp2_with fail
  rw [← hW1]
  clear hW1
  refine wp_region_held_drew (S := fun w' => w'.cell? ⟨bm + 1, 3, none⟩ = some (.map (some bm)) ∧ w'.cell? ⟨bm + 1, 2, none⟩ = some (.int .i64 (T + 1)) ∧ w'.cell? ⟨w.heap.size, 0, none⟩ = some (.int .i64 U) ∧ w'.cell? ⟨w.heap.size, 1, none⟩ = some (.int .i64 num)) (by kernel_rfl) (by exact ⟨s3, s2, k0, k1⟩) (fun hS => ?_)
  refine wpAnyH_take (i := 0) (v := (.pointer (some ⟨bm + 1, 0, none⟩))) rfl (by as_aux_lemma => kernel_rfl) (by as_aux_lemma => kernel_rfl) (by as_aux_lemma => kernel_rfl) (fun _ _ _ h => h) (Or.inl ⟨by kernel_rfl, ?_⟩) hS ?_
  · intro w hSw; (try dsimp only at hSw); go_simp
  simp only [Act.put, List.getElem_toArray, List.getElem_cons_zero, List.getElem_cons_succ, List.setIfInBounds_toArray, List.set_cons_zero, List.set_cons_succ]
  refine wpAnyH_take (i := 1) (v := (.pointer (some ⟨bm + 1, 0, none⟩))) rfl (by as_aux_lemma => kernel_rfl) (by as_aux_lemma => kernel_rfl) (by as_aux_lemma => kernel_rfl) (fun _ _ _ h => h) (Or.inl ⟨by kernel_rfl, ?_⟩) hS ?_
  · intro w hSw; (try dsimp only at hSw); go_simp
  simp only [Act.put, List.getElem_toArray, List.getElem_cons_zero, List.getElem_cons_succ, List.setIfInBounds_toArray, List.set_cons_zero, List.set_cons_succ]
  refine wpAnyH_take (i := 2) (v := (.pointer (some ⟨bm + 1, 3, none⟩))) rfl (by as_aux_lemma => kernel_rfl) (by as_aux_lemma => kernel_rfl) (by as_aux_lemma => kernel_rfl) (fun _ _ _ h => h) (Or.inl ⟨by kernel_rfl, ?_⟩) hS ?_
  · intro w hSw; (try dsimp only at hSw); go_simp
  simp only [Act.put, List.getElem_toArray, List.getElem_cons_zero, List.getElem_cons_succ, List.setIfInBounds_toArray, List.set_cons_zero, List.set_cons_succ]
  refine wpAnyH_take (i := 3) (v := (.map (some bm))) rfl (by as_aux_lemma => kernel_rfl) (by as_aux_lemma => kernel_rfl) (by as_aux_lemma => kernel_rfl) (fun _ _ _ h => h) (Or.inl ⟨by kernel_rfl, ?_⟩) hS ?_
  · intro w hSw; (try dsimp only at hSw); go_simp
  simp only [Act.put, List.getElem_toArray, List.getElem_cons_zero, List.getElem_cons_succ, List.setIfInBounds_toArray, List.set_cons_zero, List.set_cons_succ]
  refine wpAnyH_take (i := 4) (v := (.agg #[.int .i64 U, .int .i64 num])) rfl (by as_aux_lemma => kernel_rfl) (by as_aux_lemma => kernel_rfl) (by as_aux_lemma => kernel_rfl) (fun _ _ _ h => h) (Or.inl ⟨by kernel_rfl, ?_⟩) hS ?_
  · intro w hSw; (try dsimp only at hSw); go_simp
  simp only [Act.put, List.getElem_toArray, List.getElem_cons_zero, List.getElem_cons_succ, List.setIfInBounds_toArray, List.set_cons_zero, List.set_cons_succ]
  refine wpAnyH_take (i := 5) (v := (.pointer (some ⟨bm + 1, 0, none⟩))) rfl (by as_aux_lemma => kernel_rfl) (by as_aux_lemma => kernel_rfl) (by as_aux_lemma => kernel_rfl) (fun _ _ _ h => h) (Or.inl ⟨by kernel_rfl, ?_⟩) hS ?_
  · intro w hSw; (try dsimp only at hSw); go_simp
  simp only [Act.put, List.getElem_toArray, List.getElem_cons_zero, List.getElem_cons_succ, List.setIfInBounds_toArray, List.set_cons_zero, List.set_cons_succ]
  refine wpAnyH_take (i := 6) (v := (.pointer (some ⟨bm + 1, 0, none⟩))) rfl (by as_aux_lemma => kernel_rfl) (by as_aux_lemma => kernel_rfl) (by as_aux_lemma => kernel_rfl) (fun _ _ _ h => h) (Or.inl ⟨by kernel_rfl, ?_⟩) hS ?_
  · intro w hSw; (try dsimp only at hSw); go_simp
  simp only [Act.put, List.getElem_toArray, List.getElem_cons_zero, List.getElem_cons_succ, List.setIfInBounds_toArray, List.set_cons_zero, List.set_cons_succ]
  refine wpAnyH_take (i := 7) (v := (.pointer (some ⟨bm + 1, 2, none⟩))) rfl (by as_aux_lemma => kernel_rfl) (by as_aux_lemma => kernel_rfl) (by as_aux_lemma => kernel_rfl) (fun _ _ _ h => h) (Or.inl ⟨by kernel_rfl, ?_⟩) hS ?_
  · intro w hSw; (try dsimp only at hSw); go_simp
  simp only [Act.put, List.getElem_toArray, List.getElem_cons_zero, List.getElem_cons_succ, List.setIfInBounds_toArray, List.set_cons_zero, List.set_cons_succ]
  refine wpAnyH_take (i := 8) (v := (.int .i64 (T + 1))) rfl (by as_aux_lemma => kernel_rfl) (by as_aux_lemma => kernel_rfl) (by as_aux_lemma => kernel_rfl) (fun _ _ _ h => h) (Or.inl ⟨by kernel_rfl, ?_⟩) hS ?_
  · intro w hSw; (try dsimp only at hSw); go_simp
  simp only [Act.put, List.getElem_toArray, List.getElem_cons_zero, List.getElem_cons_succ, List.setIfInBounds_toArray, List.set_cons_zero, List.set_cons_succ]
  refine wpAnyH_take (i := 9) (v := (.slice a xs.length c)) rfl (by as_aux_lemma => kernel_rfl) (by as_aux_lemma => kernel_rfl) (by as_aux_lemma => kernel_rfl) (fun _ _ _ h => h) (Or.inl ⟨by kernel_rfl, ?_⟩) hS ?_
  · intro w hSw; (try dsimp only at hSw); go_simp
  simp only [Act.put, List.getElem_toArray, List.getElem_cons_zero, List.getElem_cons_succ, List.setIfInBounds_toArray, List.set_cons_zero, List.set_cons_succ]
  refine wpAnyH_take (i := 10) (v := (.agg #[.int .i64 (T + 1), .slice a xs.length c])) rfl (by as_aux_lemma => kernel_rfl) (by as_aux_lemma => kernel_rfl) (by as_aux_lemma => kernel_rfl) (fun _ _ _ h => h) (Or.inl ⟨by kernel_rfl, ?_⟩) hS ?_
  · intro w hSw; (try dsimp only at hSw); go_simp
  simp only [Act.put, List.getElem_toArray, List.getElem_cons_zero, List.getElem_cons_succ, List.setIfInBounds_toArray, List.set_cons_zero, List.set_cons_succ]
  refine wpAnyH_ready (rs := [11]) (by as_aux_lemma => kernel_rfl) (by simp) ?_
  refine AllReadyH.cons rfl (fun K hK => ?_) AllReadyH.nil
  go_simp
  refine hK.out _ _ ⟨q0 (by omega) hS.1, q0 (by omega) hS.2.1, q0 (by omega) hS.2.2.1, q0 (by omega) hS.2.2.2⟩ (fun hS => ?_)
  clear hK K
  refine wpAnyH_done (by kernel_rfl) ?_ _
  clear hS
  go_wp2
  exact bodyPost_end (v := .tuple #[]) (by simp [results, Try.results84, go_sem]) rfl ⟨rfl, HF.out, HC.out⟩
end Go.Proofs.Ytckkkhabjfbngaa
