/-
  The shelf fetches.
-/
import Derived.Test.YtckkkhabjfbngaaShelf5
import Derived.Test.YtckkkhabjfbngaaLoad
import Derived.Test.YtckkkhabjfbngaaForget1
namespace Go.Proofs.Ytckkkhabjfbngaa
open Go.RowKit Go.ChangeMaps Go.MapKept
set_option linter.unusedVariables false
set_option linter.unusedSimpArgs false

/-- The bytes of a block that is there. -/
def getN : List Bk → Int → Option (List Int)
  | [], _ => none
  | b :: bs, x => if b.1 = x then some b.2 else getN bs x

theorem getN_none {bs : List Bk} {x : Int} (h : ∀ b ∈ bs, b.1 ≠ x) : getN bs x = none := by
  induction bs with
  | nil => rfl
  | cons b bs ih =>
    rw [getN, if_neg (h b List.mem_cons_self)]
    exact ih (fun c hc => h c (List.mem_cons_of_mem _ hc))

theorem getN_some : ∀ {bs : List Bk} {x : Int} {ys : List Int}, (bs.map (·.1)).Nodup → (x, ys) ∈ bs → getN bs x = some ys
  | [], _, _, _, h => by simp at h
  | b :: bs, x, ys, hn, h => by
    rw [List.map_cons, List.nodup_cons] at hn
    rcases List.mem_cons.1 h with q | q
    · subst q
      rw [getN, if_pos rfl]
    · have hne : b.1 ≠ x := fun e => hn.1 (by rw [e]; exact List.mem_map.2 ⟨_, q, rfl⟩)
      rw [getN, if_neg hne]
      exact getN_some hn.2 q

/-- What is fetched, and what is held behind it. -/
def ftB (U : Nat) (bs : List Bk) (xs : List Int) (num : Nat) : List Int := (getN bs num).getD (blkAt xs num U)
def ftQ (Z : Int) (bs : List Bk) (num : Int) (Y : List Int) : List Bk :=
  if Y.length = 0 then bs else if Z < ((lessB bs num ++ [(num, Y)]).length : Int) then (lessB bs num ++ [(num, Y)]).drop 1 else lessB bs num ++ [(num, Y)]

/-- The entries are old ones, or lie in new memory. -/
def NewV (w : World) (E E' : List En) : Prop := ∀ e' ∈ E', (∃ e ∈ E, e.v = e'.v) ∨ ∀ ad l c, e'.v = .slice (some ad) l c → w.heap.size ≤ ad.block

theorem NewV.snoc {w : World} {E : List En} {num t : Int} {v : Value} (h : (∃ e ∈ E, e.v = v) ∨ ∀ ad l c, v = .slice (some ad) l c → w.heap.size ≤ ad.block) : NewV w E (butN E num ++ [⟨num, t, v⟩]) := by
  intro e' he
  rcases List.mem_append.1 he with q | q
  · exact .inl ⟨e', (List.mem_filter.1 q).1, rfl⟩
  · rw [List.mem_singleton] at q
    subst q
    exact h

theorem Shelf.drop {bm : Nat} {U Z T : Int} {w w' : World} {e : En} {E : List En} {b : Bk} {bs : List Bk} (h : Shelf bm U Z T w (e :: E) (b :: bs)) (ho : OwnE U w' bm (butN (e :: E) e.num)) (hg : w.grownBy w' (some bm)) : Shelf bm U Z T w' E bs := by
  have hnd := h.own.nodup
  rw [List.map_cons, List.nodup_cons] at hnd
  have hE : butN (e :: E) e.num = E := by
    unfold butN
    rw [List.filter_cons, if_neg (by simp)]
    refine List.filter_eq_self.2 (fun x hx => ?_)
    simp only [decide_eq_true_eq]
    intro q
    exact hnd.1 (by rw [← q]; exact List.mem_map.2 ⟨x, hx, rfl⟩)
  rw [hE] at ho
  refine ⟨ho, h.blk.kept hg (by simp), ((h.hold.cons_inv).2).chg (Chg.one hg) (Nat.le_refl _) (by omega), (List.pairwise_cons.1 h.up).2, fun x hx => h.turns x (List.mem_cons_of_mem _ hx), h.T0, h.T1⟩

set_option maxHeartbeats 3200000 in
set_option maxRecDepth 20000 in
theorem fetch_there (bm U : Nat) (Z T : Int) (E : List En) (bs : List Bk) (num M : Nat) (p : Option Addr) (m cp : Nat) (xs : List Int) (w : World) (h : Shelf bm U Z T w E bs) (hp : Rd .u8 w p m xs) (hm : m ≤ 400) (hmc : m ≤ cp) (hcm : cp ≤ maxLen) (hU1 : 1 ≤ U) (hU : U ≤ 64) (hnum : num ≤ 1000) (hM1 : 1 ≤ M) (hM : M ≤ 400) (hT : T < 100000) (hZ1 : 1 ≤ Z) (hl : bs.length ≤ 12) (Y : List Int) (hY : ((num : Int), Y) ∈ bs) (hY0 : 0 < Y.length) :
    Calls Try.prog 51 #[.pointer (some ⟨bm + 1, 0, none⟩), .agg #[.slice p m cp], .int .i64 num, .int .i64 M] w fun e w' => ∃ (a : Option Addr) (c : Nat) (E' : List En) (T' : Int), e = .returned (.slice a Y.length c) ∧ Rd .u8 w' a Y.length Y ∧ Y.length ≤ c ∧ c ≤ maxLen ∧ Shelf bm U Z T' w' E' (ftQ Z bs num Y) ∧ T' ≤ T + 1 ∧ Chg bm (bm + 2) w w' ∧ NewV w E E' := by
  have hlt := h.blk.lt
  have g0 := h.blk.cell 0
  have g1 := h.blk.cell 1
  have g3 := h.blk.cell 3
  simp at g0 g1 g3
  have hkey : KeyOk (U : Int) (num : Int) := keyOk (by omega) (by omega) (by omega) (by omega)
  have hEl := h.hold.1
  obtain ⟨j, hj, hjY⟩ := List.mem_iff_getElem.1 hY
  obtain ⟨q1, a', c', q2, q3, q4, q5, q6⟩ := h.hold.2 j E[j] bs[j] (List.getElem?_eq_getElem (by omega)) (List.getElem?_eq_getElem hj)
  rw [hjY] at q1 q2 q3 q4 q6
  simp only at q1 q2 q3 q4 q6
  have heE : E[j] ∈ E := List.getElem_mem (by omega)
  generalize E[j] = e at q1 q2 heE
  obtain ⟨en, et, ev⟩ := e
  simp only at q1 q2
  subst q1
  subst q2
  obtain ⟨W1, hW1⟩ : ∃ W1, W1 = (w.alloc (Obj.cells #[Value.slice p m cp] 28)).alloc (Obj.cells #[Value.int .i64 (U : Int), Value.int .i64 (num : Int)] 95) := ⟨_, rfl⟩
  have hB1 : Below w.heap.size w W1 := by rw [hW1]; exact ((Below.refl _ _).alloc (Nat.le_refl _) _).alloc (by simp) _
  have hz1 : W1.heap.size = w.heap.size + 2 := by rw [hW1]; simp
  have fx : W1.cell? ⟨w.heap.size, 0, none⟩ = some (.slice p m cp) := by rw [hW1]; simp
  have k0 : W1.cell? ⟨w.heap.size + 1, 0, none⟩ = some (.int .i64 U) := by rw [hW1]; simp [go_sem]
  have k1 : W1.cell? ⟨w.heap.size + 1, 1, none⟩ = some (.int .i64 num) := by rw [hW1]; simp [go_sem]
  have s3 : W1.cell? ⟨bm + 1, 3, none⟩ = some (.map (some bm)) := by
    have q := cell_later hB1 g3
    exact q
  have own1 : OwnE U W1 bm E := h.own.below hB1
  have HSH := hid h
  have HK := hid hkey
  have HE := hid heE
  have HP := hid hp
  have HCM := hid hcm
  clear h hp hcm
  go_enter Try.func51, Try.ntmps51
  go_wp2_with fail
  rw [← hW1]
  clear hW1
  refine wp_region_held_drew (S := fun w' => w'.cell? ⟨bm + 1, 3, none⟩ = some (.map (some bm)) ∧ w'.cell? ⟨w.heap.size + 1, 0, none⟩ = some (.int .i64 (U : Int)) ∧ w'.cell? ⟨w.heap.size + 1, 1, none⟩ = some (.int .i64 (num : Int)) ∧ w'.cell? ⟨w.heap.size, 0, none⟩ = some (.slice p m cp) ∧ Below W1.drew.heap.size W1.drew w' ∧ OwnE (U : Int) w' bm E) (by kernel_rfl) (by exact ⟨s3, k0, k1, fx, Below.refl _ _, own1⟩) (fun hS => ?_)
  refine wpAnyH_take (i := 0) (v := (.pointer (some ⟨bm + 1, 0, none⟩))) rfl (by as_aux_lemma => kernel_rfl) (by as_aux_lemma => kernel_rfl) (by as_aux_lemma => kernel_rfl) (fun _ _ _ h => h) (Or.inl ⟨by kernel_rfl, ?_⟩) hS ?_
  · intro w hSw; (try dsimp only at hSw); have hlk := OwnE.look hSw.2.2.2.2.2 HE.out true; simp only [kv, hv, if_true] at hlk; go_simp
  simp only [Act.put, List.getElem_toArray, List.getElem_cons_zero, List.getElem_cons_succ, List.setIfInBounds_toArray, List.set_cons_zero, List.set_cons_succ]
  refine wpAnyH_take (i := 1) (v := (.pointer (some ⟨bm + 1, 0, none⟩))) rfl (by as_aux_lemma => kernel_rfl) (by as_aux_lemma => kernel_rfl) (by as_aux_lemma => kernel_rfl) (fun _ _ _ h => h) (Or.inl ⟨by kernel_rfl, ?_⟩) hS ?_
  · intro w hSw; (try dsimp only at hSw); have hlk := OwnE.look hSw.2.2.2.2.2 HE.out true; simp only [kv, hv, if_true] at hlk; go_simp
  simp only [Act.put, List.getElem_toArray, List.getElem_cons_zero, List.getElem_cons_succ, List.setIfInBounds_toArray, List.set_cons_zero, List.set_cons_succ]
  refine wpAnyH_take (i := 2) (v := (.pointer (some ⟨bm + 1, 3, none⟩))) rfl (by as_aux_lemma => kernel_rfl) (by as_aux_lemma => kernel_rfl) (by as_aux_lemma => kernel_rfl) (fun _ _ _ h => h) (Or.inl ⟨by kernel_rfl, ?_⟩) hS ?_
  · intro w hSw; (try dsimp only at hSw); have hlk := OwnE.look hSw.2.2.2.2.2 HE.out true; simp only [kv, hv, if_true] at hlk; go_simp
  simp only [Act.put, List.getElem_toArray, List.getElem_cons_zero, List.getElem_cons_succ, List.setIfInBounds_toArray, List.set_cons_zero, List.set_cons_succ]
  refine wpAnyH_take (i := 3) (v := (.map (some bm))) rfl (by as_aux_lemma => kernel_rfl) (by as_aux_lemma => kernel_rfl) (by as_aux_lemma => kernel_rfl) (fun _ _ _ h => h) (Or.inl ⟨by kernel_rfl, ?_⟩) hS ?_
  · intro w hSw; (try dsimp only at hSw); have hlk := OwnE.look hSw.2.2.2.2.2 HE.out true; simp only [kv, hv, if_true] at hlk; go_simp
  simp only [Act.put, List.getElem_toArray, List.getElem_cons_zero, List.getElem_cons_succ, List.setIfInBounds_toArray, List.set_cons_zero, List.set_cons_succ]
  refine wpAnyH_take (i := 4) (v := (.agg #[.int .i64 (U : Int), .int .i64 (num : Int)])) rfl (by as_aux_lemma => kernel_rfl) (by as_aux_lemma => kernel_rfl) (by as_aux_lemma => kernel_rfl) (fun _ _ _ h => h) (Or.inl ⟨by kernel_rfl, ?_⟩) hS ?_
  · intro w hSw; (try dsimp only at hSw); have hlk := OwnE.look hSw.2.2.2.2.2 HE.out true; simp only [kv, hv, if_true] at hlk; go_simp
  simp only [Act.put, List.getElem_toArray, List.getElem_cons_zero, List.getElem_cons_succ, List.setIfInBounds_toArray, List.set_cons_zero, List.set_cons_succ]
  refine wpAnyH_take (i := 5) (v := (.tuple #[.agg #[.int .i64 et, .slice a' Y.length c'], .bool true])) rfl (by as_aux_lemma => kernel_rfl) (by as_aux_lemma => kernel_rfl) (by as_aux_lemma => kernel_rfl) (fun _ _ _ h => h) (Or.inl ⟨by kernel_rfl, ?_⟩) hS ?_
  · intro w hSw; (try dsimp only at hSw); have hlk := OwnE.look hSw.2.2.2.2.2 HE.out true; simp only [kv, hv, if_true] at hlk; go_simp
  simp only [Act.put, List.getElem_toArray, List.getElem_cons_zero, List.getElem_cons_succ, List.setIfInBounds_toArray, List.set_cons_zero, List.set_cons_succ]
  refine wpAnyH_take (i := 6) (v := (.tuple #[.agg #[.int .i64 et, .slice a' Y.length c'], .bool true])) rfl (by as_aux_lemma => kernel_rfl) (by as_aux_lemma => kernel_rfl) (by as_aux_lemma => kernel_rfl) (fun _ _ _ h => h) (Or.inl ⟨by kernel_rfl, ?_⟩) hS ?_
  · intro w hSw; (try dsimp only at hSw); have hlk := OwnE.look hSw.2.2.2.2.2 HE.out true; simp only [kv, hv, if_true] at hlk; go_simp
  simp only [Act.put, List.getElem_toArray, List.getElem_cons_zero, List.getElem_cons_succ, List.setIfInBounds_toArray, List.set_cons_zero, List.set_cons_succ]
  refine wpAnyH_take (i := 7) (v := (.agg #[.int .i64 et, .slice a' Y.length c'])) rfl (by as_aux_lemma => kernel_rfl) (by as_aux_lemma => kernel_rfl) (by as_aux_lemma => kernel_rfl) (fun _ _ _ h => h) (Or.inl ⟨by kernel_rfl, ?_⟩) hS ?_
  · intro w hSw; (try dsimp only at hSw); have hlk := OwnE.look hSw.2.2.2.2.2 HE.out true; simp only [kv, hv, if_true] at hlk; go_simp
  simp only [Act.put, List.getElem_toArray, List.getElem_cons_zero, List.getElem_cons_succ, List.setIfInBounds_toArray, List.set_cons_zero, List.set_cons_succ]
  refine wpAnyH_take (i := 8) (v := (.bool true)) rfl (by as_aux_lemma => kernel_rfl) (by as_aux_lemma => kernel_rfl) (by as_aux_lemma => kernel_rfl) (fun _ _ _ h => h) (Or.inl ⟨by kernel_rfl, ?_⟩) hS ?_
  · intro w hSw; (try dsimp only at hSw); have hlk := OwnE.look hSw.2.2.2.2.2 HE.out true; simp only [kv, hv, if_true] at hlk; go_simp
  simp only [Act.put, List.getElem_toArray, List.getElem_cons_zero, List.getElem_cons_succ, List.setIfInBounds_toArray, List.set_cons_zero, List.set_cons_succ]
  refine wpAnyH_ready (rs := [9]) (by as_aux_lemma => kernel_rfl) (by simp) ?_
  refine AllReadyH.cons rfl (fun K hK => ?_) AllReadyH.nil
  go_simp
  have hbn : Below W1.drew.heap.size W1.drew _ := (Below.refl W1.drew.heap.size W1.drew).alloc (Nat.le_refl _) (Obj.cells #[Value.int .i64 0, Value.slice none 0 0] 124)
  refine hK.out _ _ ⟨cell_later hbn hS.1, cell_later hbn hS.2.1, cell_later hbn hS.2.2.1, cell_later hbn hS.2.2.2.1, hbn, OwnE.below hS.2.2.2.2.2 hbn⟩ (fun hS => ?_)
  clear hK K
  (try simp only [Act.put, List.getElem_toArray, List.getElem_cons_zero, List.getElem_cons_succ, List.setIfInBounds_toArray, List.set_cons_zero, List.set_cons_succ])
  refine wpAnyH_ready (rs := [10]) (by as_aux_lemma => kernel_rfl) (by simp) ?_
  refine AllReadyH.cons rfl (fun K hK => ?_) AllReadyH.nil
  go_simp
  have hbn2 : Below W1.drew.heap.size W1.drew (W1.alloc (Obj.cells #[Value.int .i64 et, Value.slice a' Y.length c'] 124)).drew := (Below.refl W1.drew.heap.size W1.drew).alloc (Nat.le_refl _) (Obj.cells #[Value.int .i64 et, Value.slice a' Y.length c'] 124)
  refine hK.out _ _ ⟨by exact cell_later hbn2 (by exact s3), by exact cell_later hbn2 (by exact k0), by exact cell_later hbn2 (by exact k1), by exact cell_later hbn2 (by exact fx), hbn2, by exact OwnE.below (w := W1.drew) (by exact own1) hbn2⟩ (fun hS => ?_)
  clear hK K
  (try simp only [Act.put, List.getElem_toArray, List.getElem_cons_zero, List.getElem_cons_succ, List.setIfInBounds_toArray, List.set_cons_zero, List.set_cons_succ])
  refine wpAnyH_take (i := 11) (v := (.bool true)) rfl (by as_aux_lemma => kernel_rfl) (by as_aux_lemma => kernel_rfl) (by as_aux_lemma => kernel_rfl) (fun _ _ _ h => h) (Or.inl ⟨by kernel_rfl, ?_⟩) hS ?_
  · intro w hSw; (try dsimp only at hSw); have hlk := OwnE.look hSw.2.2.2.2.2 HE.out true; simp only [kv, hv, if_true] at hlk; go_simp
  simp only [Act.put, List.getElem_toArray, List.getElem_cons_zero, List.getElem_cons_succ, List.setIfInBounds_toArray, List.set_cons_zero, List.set_cons_succ]
  refine wpAnyH_done (by kernel_rfl) ?_ _
  have m1 : (W1.alloc (Obj.cells #[Value.int .i64 et, Value.slice a' Y.length c'] 124)).drew.cell? ⟨w.heap.size + 2, 1, none⟩ = some (.slice a' Y.length c') := by
    have q : (W1.alloc (Obj.cells #[Value.int .i64 et, Value.slice a' Y.length c'] 124)).cell? ⟨w.heap.size + 2, 1, none⟩ = some (.slice a' Y.length c') := by rw [World.cell?_alloc_at _ _ _ _ hz1.symm]; rfl
    exact q
  obtain ⟨-, c0, c1, cf, hbX, -⟩ := hS
  have hb2 : Below w.heap.size w (W1.alloc (Obj.cells #[Value.int .i64 et, Value.slice a' Y.length c'] 124)).drew := hB1.trans (Below.mono (B := W1.heap.size) ⟨hbX.os, hbX.tape, hbX.output, hbX.size, hbX.block⟩ (by omega))
  have hz2 : w.heap.size + 2 < (W1.alloc (Obj.cells #[Value.int .i64 et, Value.slice a' Y.length c'] 124)).drew.heap.size := by
    have q : (W1.alloc (Obj.cells #[Value.int .i64 et, Value.slice a' Y.length c'] 124)).drew.heap.size = W1.heap.size + 1 := by show (W1.alloc (Obj.cells #[Value.int .i64 et, Value.slice a' Y.length c'] 124)).heap.size = _; simp
    omega
  clear hbX
  generalize (W1.alloc (Obj.cells #[Value.int .i64 et, Value.slice a' Y.length c'] 124)).drew = W2 at m1 c0 c1 cf hb2 hz2 ⊢
  have hs2 := HSH.out.below hb2
  clear s3 k0 k1 fx own1 hz1 hB1 g0 g1 g3
  have hr2 : Rd .u8 W2 a' Y.length Y := q3.below hb2
  have hap : ∀ ad, a' = some ad → Y.length = 0 ∨ ad.block < bm ∨ bm + 2 ≤ ad.block := q6
  have hY0' : ¬ (Y.length : Int) = 0 := by omega
  have hYn : Y.length ≠ 0 := by omega
  have hC2 : Chg bm (bm + 2) w W2 := Chg.of_below hb2
  have hnew : (∃ e ∈ E, e.v = Value.slice a' Y.length c') ∨ ∀ ad l c, Value.slice a' Y.length c' = .slice (some ad) l c → w.heap.size ≤ ad.block := .inl ⟨_, HE.out, rfl⟩
  have q5' := hid q5
  clear q3 q5 q6
  have HR2 := hid hr2
  have CP := hid (put_any bm U Z T E bs num a' c' Y W2 hs2 HK.out hr2 q4 q5'.out hap (by omega))
  clear hs2 hr2
  go_wp2_with fail
  refine Calls.mono CP.out ?_
  rintro e w3 ⟨rfl, hs3, hC3⟩
  have hC := hC2.trans hC3
  have hr3 : Rd .u8 w3 a' Y.length Y := hid (rd_chg HR2.out hC3 hap)
  have hnv : NewV w E (butN E num ++ [⟨num, T + 1, .slice a' Y.length c'⟩]) := NewV.snoc hnew
  generalize hE3 : butN E num ++ [⟨num, T + 1, .slice a' Y.length c'⟩] = E3 at hs3 hnv
  have HNV := hid hnv
  clear hnv hnew
  have hQe : ftQ Z bs num Y = if Z < ((lessB bs num ++ [((num : Int), Y)]).length : Int) then (lessB bs num ++ [((num : Int), Y)]).drop 1 else lessB bs num ++ [((num : Int), Y)] := if_neg hYn
  generalize hb3 : lessB bs num ++ [((num : Int), Y)] = b3 at hs3 hQe
  have hl3 := hs3.hold.1
  have s1 := hs3.blk.cell 1
  have s3 := hs3.blk.cell 3
  simp at s1 s3
  have hln := fun (q : Nat) (ty : TypeId) => OwnE.len (w := w3.drewN q) (by exact hs3.own) ty
  have hb3l : b3.length ≤ 13 := by
    rw [← hb3, List.length_append]
    have := List.length_filter_le (fun b : Bk => decide (b.1 ≠ (num : Int))) bs
    unfold lessB
    simp at this ⊢
    omega
  rw [hl3] at hln
  have HS3 := hid hs3
  have HR3 := hid hr3
  have HC := hid hC
  have HQE := hid hQe
  clear hs3 hr3 hC hQe hE3 hb3 hC2 hC3 CP m1 c0 c1 cf
  by_cases hZ : Z < (b3.length : Int)
  · have hZd : decide (Z < (b3.length : Int)) = true := decide_eq_true hZ
    go_wp2
    go_quiet (fail)
    go_wp2_with fail
    obtain ⟨b0, br, rfl⟩ : ∃ b0 br, b3 = b0 :: br := by
      cases b3 with
      | nil => simp at hb3l hZ; exact absurd hZ (by have := hZ1; omega)
      | cons b0 br => exact ⟨b0, br, rfl⟩
    obtain ⟨e0, Er, rfl⟩ : ∃ e0 Er, E3 = e0 :: Er := by
      cases E3 with
      | nil => simp at hl3
      | cons e0 Er => exact ⟨e0, Er, rfl⟩
    obtain ⟨V, hV⟩ : ∃ V, V = w3.drewN nq := ⟨_, rfl⟩
    rw [← hV]
    have hb3V : Below w3.heap.size w3 V.drew := by rw [hV]; exact (below_drewN (Below.refl _ _) _).drew
    have hsV : Shelf bm U Z (T + 1) V.drew (e0 :: Er) (b0 :: br) := HS3.out.below hb3V
    have v3 : V.cell? ⟨bm + 1, 3, none⟩ = some (.map (some bm)) := by have q := hsV.blk.cell 3; simpa using q
    have CF := hid (first_any bm U Z (T + 1) e0 Er (b0 :: br) V.drew hsV)
    have HSV := hid hsV
    clear hV hsV
    refine wp_region_held_drew (S := fun w' => w'.cell? ⟨bm + 1, 3, none⟩ = some (.map (some bm))) (by kernel_rfl) (by exact v3) (fun hS => ?_)
    refine wpAnyH_take (i := 0) (v := (.pointer (some ⟨bm + 1, 0, none⟩))) rfl (by as_aux_lemma => kernel_rfl) (by as_aux_lemma => kernel_rfl) (by as_aux_lemma => kernel_rfl) (fun _ _ _ h => h) (Or.inl ⟨by kernel_rfl, ?_⟩) hS ?_
    · intro w hSw; (try dsimp only at hSw); go_simp
    simp only [Act.put, List.getElem_toArray, List.getElem_cons_zero, List.getElem_cons_succ, List.setIfInBounds_toArray, List.set_cons_zero, List.set_cons_succ]
    refine wpAnyH_take (i := 1) (v := (.pointer (some ⟨bm + 1, 0, none⟩))) rfl (by as_aux_lemma => kernel_rfl) (by as_aux_lemma => kernel_rfl) (by as_aux_lemma => kernel_rfl) (fun _ _ _ h => h) (Or.inl ⟨by kernel_rfl, ?_⟩) hS ?_
    · intro w hSw; (try dsimp only at hSw); go_simp
    simp only [Act.put, List.getElem_toArray, List.getElem_cons_zero, List.getElem_cons_succ, List.setIfInBounds_toArray, List.set_cons_zero, List.set_cons_succ]
    refine wpAnyH_take (i := 2) (v := (.pointer (some ⟨bm + 1, 3, none⟩))) rfl (by as_aux_lemma => kernel_rfl) (by as_aux_lemma => kernel_rfl) (by as_aux_lemma => kernel_rfl) (fun _ _ _ h => h) (Or.inl ⟨by kernel_rfl, ?_⟩) hS ?_
    · intro w hSw; (try dsimp only at hSw); go_simp
    simp only [Act.put, List.getElem_toArray, List.getElem_cons_zero, List.getElem_cons_succ, List.setIfInBounds_toArray, List.set_cons_zero, List.set_cons_succ]
    refine wpAnyH_take (i := 3) (v := (.map (some bm))) rfl (by as_aux_lemma => kernel_rfl) (by as_aux_lemma => kernel_rfl) (by as_aux_lemma => kernel_rfl) (fun _ _ _ h => h) (Or.inl ⟨by kernel_rfl, ?_⟩) hS ?_
    · intro w hSw; (try dsimp only at hSw); go_simp
    simp only [Act.put, List.getElem_toArray, List.getElem_cons_zero, List.getElem_cons_succ, List.setIfInBounds_toArray, List.set_cons_zero, List.set_cons_succ]
    refine wpAnyH_take (i := 4) (v := (.pointer (some ⟨bm + 1, 0, none⟩))) rfl (by as_aux_lemma => kernel_rfl) (by as_aux_lemma => kernel_rfl) (by as_aux_lemma => kernel_rfl) (fun _ _ _ h => h) (Or.inl ⟨by kernel_rfl, ?_⟩) hS ?_
    · intro w hSw; (try dsimp only at hSw); go_simp
    simp only [Act.put, List.getElem_toArray, List.getElem_cons_zero, List.getElem_cons_succ, List.setIfInBounds_toArray, List.set_cons_zero, List.set_cons_succ]
    refine wpAnyH_ready (rs := [5]) (by as_aux_lemma => kernel_rfl) (by simp) ?_
    refine AllReadyH.cons rfl (fun K hK => ?_) AllReadyH.nil
    go_simp
    refine Calls.mono CF.out ?_
    rintro e5 w5 ⟨rfl, hb5⟩
    obtain ⟨w6, hdel, own6, hg6, -⟩ := OwnE.drop (HSV.out.below hb5).own ((HSV.out.own).ok e0 List.mem_cons_self) 0
    simp only [kv] at hdel
    refine hK.out _ _ (cell_later hb5 hS) (fun hS => ?_)
    clear hK K
    (try simp only [Act.put, List.getElem_toArray, List.getElem_cons_zero, List.getElem_cons_succ, List.setIfInBounds_toArray, List.set_cons_zero, List.set_cons_succ])
    refine wpAnyH_ready (rs := [6]) (by as_aux_lemma => kernel_rfl) (by simp) ?_
    refine AllReadyH.cons rfl (fun K hK => ?_) AllReadyH.nil
    go_simp
    refine hK.out _ _ (cell_of_grown hg6 (by omega) hS) (fun hS => ?_)
    clear hK K
    refine wpAnyH_done (by kernel_rfl) ?_ _
    clear hS
    go_wp2
    go_ret
    refine ⟨a', c', Er, T + 1, rfl, ?_, q4, q5'.out, ?_, by omega, ?_, fun e he => HNV.out e (List.mem_cons_of_mem _ he)⟩
    · exact rd_chg ((HR3.out.below hb3V).below hb5) (Chg.one hg6) (fun ad had => by rcases hap ad had with q | q | q; exact .inl q; exact .inr (.inl q); exact .inr (.inr (by omega)))
    · rw [HQE.out, if_pos hZ]
      exact Shelf.drop (HSV.out.below hb5) own6 hg6
    · exact HC.out.trans ((Chg.of_below hb3V).trans ((Chg.of_below hb5).trans ((Chg.one hg6).mono (Nat.le_refl _) (by omega))))
  · have hZd : decide (Z < (b3.length : Int)) = false := decide_eq_false hZ
    go_wp2
    go_quiet (fail)
    go_wp2
    go_ret
    refine ⟨a', c', E3, T + 1, rfl, HR3.out, q4, q5'.out, ?_, by omega, ?_, HNV.out⟩
    · rw [HQE.out, if_neg (by omega)]
      first | exact HS3.out | exact HS3.out.below (by first | exact below_drewN (Below.refl _ _) _ | exact (Below.refl _ _).drew)
    · first | exact HC.out | exact HC.out.trans (Chg.of_below (by first | exact below_drewN (Below.refl _ _) _ | exact (Below.refl _ _).drew))

set_option maxHeartbeats 3200000 in
set_option maxRecDepth 20000 in
theorem fetch_new (bm U : Nat) (Z T : Int) (E : List En) (bs : List Bk) (num M : Nat) (p : Option Addr) (m cp : Nat) (xs : List Int) (w : World) (h : Shelf bm U Z T w E bs) (hp : Rd .u8 w p m xs) (hm : m ≤ 400) (hmc : m ≤ cp) (hcm : cp ≤ maxLen) (hU1 : 1 ≤ U) (hU : U ≤ 64) (hnum : num ≤ 1000) (hM1 : 1 ≤ M) (hM : M ≤ 400) (hT : T < 100000) (hZ1 : 1 ≤ Z) (hl : bs.length ≤ 12) (Y : List Int) (hYe : Y = blkAt xs num U) (hnot : ∀ b ∈ bs, b.1 ≠ (num : Int)) :
    Calls Try.prog 51 #[.pointer (some ⟨bm + 1, 0, none⟩), .agg #[.slice p m cp], .int .i64 num, .int .i64 M] w fun e w' => ∃ (a : Option Addr) (c : Nat) (E' : List En) (T' : Int), e = .returned (.slice a Y.length c) ∧ Rd .u8 w' a Y.length Y ∧ Y.length ≤ c ∧ c ≤ maxLen ∧ Shelf bm U Z T' w' E' (ftQ Z bs num Y) ∧ T' ≤ T + 1 ∧ Chg bm (bm + 2) w w' ∧ NewV w E E' := by
  have hlt := h.blk.lt
  have g0 := h.blk.cell 0
  have g1 := h.blk.cell 1
  have g3 := h.blk.cell 3
  simp at g0 g1 g3
  have hkey : KeyOk (U : Int) (num : Int) := keyOk (by omega) (by omega) (by omega) (by omega)
  have hEl := h.hold.1
  have hnE : ∀ e ∈ E, e.num ≠ (num : Int) := fun e he => by
    obtain ⟨j, hj, hje⟩ := List.mem_iff_getElem.1 he
    have hq := (h.hold.2 j e bs[j] (by rw [List.getElem?_eq_getElem hj, hje]) (List.getElem?_eq_getElem (by omega))).1
    rw [hq]
    exact hnot bs[j] (List.getElem_mem (by omega))
  obtain ⟨W1, hW1⟩ : ∃ W1, W1 = (w.alloc (Obj.cells #[Value.slice p m cp] 28)).alloc (Obj.cells #[Value.int .i64 (U : Int), Value.int .i64 (num : Int)] 95) := ⟨_, rfl⟩
  have hB1 : Below w.heap.size w W1 := by rw [hW1]; exact ((Below.refl _ _).alloc (Nat.le_refl _) _).alloc (by simp) _
  have hz1 : W1.heap.size = w.heap.size + 2 := by rw [hW1]; simp
  have fx : W1.cell? ⟨w.heap.size, 0, none⟩ = some (.slice p m cp) := by rw [hW1]; simp
  have k0 : W1.cell? ⟨w.heap.size + 1, 0, none⟩ = some (.int .i64 U) := by rw [hW1]; simp [go_sem]
  have k1 : W1.cell? ⟨w.heap.size + 1, 1, none⟩ = some (.int .i64 num) := by rw [hW1]; simp [go_sem]
  have s3 : W1.cell? ⟨bm + 1, 3, none⟩ = some (.map (some bm)) := by
    have q := cell_later hB1 g3
    exact q
  have own1 : OwnE U W1 bm E := h.own.below hB1
  have HSH := hid h
  have HK := hid hkey
  have HN := hid hnE
  have HP := hid hp
  have HCM := hid hcm
  clear h hp hcm
  go_enter Try.func51, Try.ntmps51
  go_wp2_with fail
  rw [← hW1]
  clear hW1
  refine wp_region_held_drew (S := fun w' => w'.cell? ⟨bm + 1, 3, none⟩ = some (.map (some bm)) ∧ w'.cell? ⟨w.heap.size + 1, 0, none⟩ = some (.int .i64 (U : Int)) ∧ w'.cell? ⟨w.heap.size + 1, 1, none⟩ = some (.int .i64 (num : Int)) ∧ w'.cell? ⟨w.heap.size, 0, none⟩ = some (.slice p m cp) ∧ Below W1.drew.heap.size W1.drew w' ∧ OwnE (U : Int) w' bm E) (by kernel_rfl) (by exact ⟨s3, k0, k1, fx, Below.refl _ _, own1⟩) (fun hS => ?_)
  refine wpAnyH_take (i := 0) (v := (.pointer (some ⟨bm + 1, 0, none⟩))) rfl (by as_aux_lemma => kernel_rfl) (by as_aux_lemma => kernel_rfl) (by as_aux_lemma => kernel_rfl) (fun _ _ _ h => h) (Or.inl ⟨by kernel_rfl, ?_⟩) hS ?_
  · intro w hSw; (try dsimp only at hSw); have hlk := OwnE.lookNot hSw.2.2.2.2.2 HK.out HN.out true; simp only [kv, hv, if_true] at hlk; go_simp
  simp only [Act.put, List.getElem_toArray, List.getElem_cons_zero, List.getElem_cons_succ, List.setIfInBounds_toArray, List.set_cons_zero, List.set_cons_succ]
  refine wpAnyH_take (i := 1) (v := (.pointer (some ⟨bm + 1, 0, none⟩))) rfl (by as_aux_lemma => kernel_rfl) (by as_aux_lemma => kernel_rfl) (by as_aux_lemma => kernel_rfl) (fun _ _ _ h => h) (Or.inl ⟨by kernel_rfl, ?_⟩) hS ?_
  · intro w hSw; (try dsimp only at hSw); have hlk := OwnE.lookNot hSw.2.2.2.2.2 HK.out HN.out true; simp only [kv, hv, if_true] at hlk; go_simp
  simp only [Act.put, List.getElem_toArray, List.getElem_cons_zero, List.getElem_cons_succ, List.setIfInBounds_toArray, List.set_cons_zero, List.set_cons_succ]
  refine wpAnyH_take (i := 2) (v := (.pointer (some ⟨bm + 1, 3, none⟩))) rfl (by as_aux_lemma => kernel_rfl) (by as_aux_lemma => kernel_rfl) (by as_aux_lemma => kernel_rfl) (fun _ _ _ h => h) (Or.inl ⟨by kernel_rfl, ?_⟩) hS ?_
  · intro w hSw; (try dsimp only at hSw); have hlk := OwnE.lookNot hSw.2.2.2.2.2 HK.out HN.out true; simp only [kv, hv, if_true] at hlk; go_simp
  simp only [Act.put, List.getElem_toArray, List.getElem_cons_zero, List.getElem_cons_succ, List.setIfInBounds_toArray, List.set_cons_zero, List.set_cons_succ]
  refine wpAnyH_take (i := 3) (v := (.map (some bm))) rfl (by as_aux_lemma => kernel_rfl) (by as_aux_lemma => kernel_rfl) (by as_aux_lemma => kernel_rfl) (fun _ _ _ h => h) (Or.inl ⟨by kernel_rfl, ?_⟩) hS ?_
  · intro w hSw; (try dsimp only at hSw); have hlk := OwnE.lookNot hSw.2.2.2.2.2 HK.out HN.out true; simp only [kv, hv, if_true] at hlk; go_simp
  simp only [Act.put, List.getElem_toArray, List.getElem_cons_zero, List.getElem_cons_succ, List.setIfInBounds_toArray, List.set_cons_zero, List.set_cons_succ]
  refine wpAnyH_take (i := 4) (v := (.agg #[.int .i64 (U : Int), .int .i64 (num : Int)])) rfl (by as_aux_lemma => kernel_rfl) (by as_aux_lemma => kernel_rfl) (by as_aux_lemma => kernel_rfl) (fun _ _ _ h => h) (Or.inl ⟨by kernel_rfl, ?_⟩) hS ?_
  · intro w hSw; (try dsimp only at hSw); have hlk := OwnE.lookNot hSw.2.2.2.2.2 HK.out HN.out true; simp only [kv, hv, if_true] at hlk; go_simp
  simp only [Act.put, List.getElem_toArray, List.getElem_cons_zero, List.getElem_cons_succ, List.setIfInBounds_toArray, List.set_cons_zero, List.set_cons_succ]
  refine wpAnyH_take (i := 5) (v := (.tuple #[.agg #[.int .i64 0, .slice none 0 0], .bool false])) rfl (by as_aux_lemma => kernel_rfl) (by as_aux_lemma => kernel_rfl) (by as_aux_lemma => kernel_rfl) (fun _ _ _ h => h) (Or.inl ⟨by kernel_rfl, ?_⟩) hS ?_
  · intro w hSw; (try dsimp only at hSw); have hlk := OwnE.lookNot hSw.2.2.2.2.2 HK.out HN.out true; simp only [kv, hv, if_true] at hlk; go_simp
  simp only [Act.put, List.getElem_toArray, List.getElem_cons_zero, List.getElem_cons_succ, List.setIfInBounds_toArray, List.set_cons_zero, List.set_cons_succ]
  refine wpAnyH_take (i := 6) (v := (.tuple #[.agg #[.int .i64 0, .slice none 0 0], .bool false])) rfl (by as_aux_lemma => kernel_rfl) (by as_aux_lemma => kernel_rfl) (by as_aux_lemma => kernel_rfl) (fun _ _ _ h => h) (Or.inl ⟨by kernel_rfl, ?_⟩) hS ?_
  · intro w hSw; (try dsimp only at hSw); have hlk := OwnE.lookNot hSw.2.2.2.2.2 HK.out HN.out true; simp only [kv, hv, if_true] at hlk; go_simp
  simp only [Act.put, List.getElem_toArray, List.getElem_cons_zero, List.getElem_cons_succ, List.setIfInBounds_toArray, List.set_cons_zero, List.set_cons_succ]
  refine wpAnyH_take (i := 7) (v := (.agg #[.int .i64 0, .slice none 0 0])) rfl (by as_aux_lemma => kernel_rfl) (by as_aux_lemma => kernel_rfl) (by as_aux_lemma => kernel_rfl) (fun _ _ _ h => h) (Or.inl ⟨by kernel_rfl, ?_⟩) hS ?_
  · intro w hSw; (try dsimp only at hSw); have hlk := OwnE.lookNot hSw.2.2.2.2.2 HK.out HN.out true; simp only [kv, hv, if_true] at hlk; go_simp
  simp only [Act.put, List.getElem_toArray, List.getElem_cons_zero, List.getElem_cons_succ, List.setIfInBounds_toArray, List.set_cons_zero, List.set_cons_succ]
  refine wpAnyH_take (i := 8) (v := (.bool false)) rfl (by as_aux_lemma => kernel_rfl) (by as_aux_lemma => kernel_rfl) (by as_aux_lemma => kernel_rfl) (fun _ _ _ h => h) (Or.inl ⟨by kernel_rfl, ?_⟩) hS ?_
  · intro w hSw; (try dsimp only at hSw); have hlk := OwnE.lookNot hSw.2.2.2.2.2 HK.out HN.out true; simp only [kv, hv, if_true] at hlk; go_simp
  simp only [Act.put, List.getElem_toArray, List.getElem_cons_zero, List.getElem_cons_succ, List.setIfInBounds_toArray, List.set_cons_zero, List.set_cons_succ]
  refine wpAnyH_ready (rs := [9]) (by as_aux_lemma => kernel_rfl) (by simp) ?_
  refine AllReadyH.cons rfl (fun K hK => ?_) AllReadyH.nil
  go_simp
  have hbn : Below W1.drew.heap.size W1.drew _ := (Below.refl W1.drew.heap.size W1.drew).alloc (Nat.le_refl _) (Obj.cells #[Value.int .i64 0, Value.slice none 0 0] 124)
  refine hK.out _ _ ⟨cell_later hbn hS.1, cell_later hbn hS.2.1, cell_later hbn hS.2.2.1, cell_later hbn hS.2.2.2.1, hbn, OwnE.below hS.2.2.2.2.2 hbn⟩ (fun hS => ?_)
  clear hK K
  (try simp only [Act.put, List.getElem_toArray, List.getElem_cons_zero, List.getElem_cons_succ, List.setIfInBounds_toArray, List.set_cons_zero, List.set_cons_succ])
  refine wpAnyH_ready (rs := [10]) (by as_aux_lemma => kernel_rfl) (by simp) ?_
  refine AllReadyH.cons rfl (fun K hK => ?_) AllReadyH.nil
  go_simp
  have hbn2 : Below W1.drew.heap.size W1.drew (W1.alloc (Obj.cells #[Value.int .i64 0, Value.slice none 0 0] 124)).drew := (Below.refl W1.drew.heap.size W1.drew).alloc (Nat.le_refl _) (Obj.cells #[Value.int .i64 0, Value.slice none 0 0] 124)
  refine hK.out _ _ ⟨by exact cell_later hbn2 (by exact s3), by exact cell_later hbn2 (by exact k0), by exact cell_later hbn2 (by exact k1), by exact cell_later hbn2 (by exact fx), hbn2, by exact OwnE.below (w := W1.drew) (by exact own1) hbn2⟩ (fun hS => ?_)
  clear hK K
  (try simp only [Act.put, List.getElem_toArray, List.getElem_cons_zero, List.getElem_cons_succ, List.setIfInBounds_toArray, List.set_cons_zero, List.set_cons_succ])
  refine wpAnyH_take (i := 11) (v := (.bool false)) rfl (by as_aux_lemma => kernel_rfl) (by as_aux_lemma => kernel_rfl) (by as_aux_lemma => kernel_rfl) (fun _ _ _ h => h) (Or.inl ⟨by kernel_rfl, ?_⟩) hS ?_
  · intro w hSw; (try dsimp only at hSw); have hlk := OwnE.lookNot hSw.2.2.2.2.2 HK.out HN.out true; simp only [kv, hv, if_true] at hlk; go_simp
  simp only [Act.put, List.getElem_toArray, List.getElem_cons_zero, List.getElem_cons_succ, List.setIfInBounds_toArray, List.set_cons_zero, List.set_cons_succ]
  refine wpAnyH_done (by kernel_rfl) ?_ _
  have m1 : (W1.alloc (Obj.cells #[Value.int .i64 0, Value.slice none 0 0] 124)).drew.cell? ⟨w.heap.size + 2, 1, none⟩ = some (.slice none 0 0) := by
    have q : (W1.alloc (Obj.cells #[Value.int .i64 0, Value.slice none 0 0] 124)).cell? ⟨w.heap.size + 2, 1, none⟩ = some (.slice none 0 0) := by rw [World.cell?_alloc_at _ _ _ _ hz1.symm]; rfl
    exact q
  obtain ⟨-, c0, c1, cf, hbX, -⟩ := hS
  have hb2 : Below w.heap.size w (W1.alloc (Obj.cells #[Value.int .i64 0, Value.slice none 0 0] 124)).drew := hB1.trans (Below.mono (B := W1.heap.size) ⟨hbX.os, hbX.tape, hbX.output, hbX.size, hbX.block⟩ (by omega))
  have hz2 : w.heap.size + 2 < (W1.alloc (Obj.cells #[Value.int .i64 0, Value.slice none 0 0] 124)).drew.heap.size := by
    have q : (W1.alloc (Obj.cells #[Value.int .i64 0, Value.slice none 0 0] 124)).drew.heap.size = W1.heap.size + 1 := by show (W1.alloc (Obj.cells #[Value.int .i64 0, Value.slice none 0 0] 124)).heap.size = _; simp
    omega
  clear hbX
  generalize (W1.alloc (Obj.cells #[Value.int .i64 0, Value.slice none 0 0] 124)).drew = W2 at m1 c0 c1 cf hb2 hz2 ⊢
  have hs2 := HSH.out.below hb2
  clear s3 k0 k1 fx own1 hz1 hB1 g0 g1 g3
  have CR := hid (fun w' h' => readFrom_any p m cp num U M xs w' h' hm hmc HCM.out hU (by omega) hM1 hM)
  rw [← hYe] at CR
  have hYl : Y.length ≤ 64 := by rw [hYe]; unfold blkAt; rw [List.length_take]; omega
  clear hYe
  go_wp2_with fail
  refine Calls.mono (CR.out _ (HP.out.below hb2)) ?_
  rintro e W5 ⟨v5, rfl, hrow, hb5⟩
  obtain ⟨a', c', hv5, q4, q5⟩ := hrow.shape
  subst hv5
  have hb25 := hb2.trans (hb5.mono hb2.size)
  replace c0 := cell_later hb5 c0
  replace c1 := cell_later hb5 c1
  have hs5 := hs2.below hb5
  have hr2 : Rd .u8 W5 a' Y.length Y := hrow.read
  have hap : ∀ ad, a' = some ad → Y.length = 0 ∨ ad.block < bm ∨ bm + 2 ≤ ad.block := fun ad had => by
    subst had
    have q := (hrow.1.lt ad.block rfl).1
    exact .inr (.inr (by omega))
  have hC2 : Chg bm (bm + 2) w W5 := Chg.of_below hb25
  have hnew : (∃ e ∈ E, e.v = Value.slice a' Y.length c') ∨ ∀ ad l c, Value.slice a' Y.length c' = .slice (some ad) l c → w.heap.size ≤ ad.block := .inr fun ad l c q => by
    simp only [Value.slice.injEq] at q
    have q1 := q.1
    subst q1
    have q2 := (hrow.1.lt ad.block rfl).1
    omega
  have q5' := hid q5
  clear q5 hrow hb5 CR hs2
  have hs2 := hs5
  clear hs5
  by_cases hY0 : Y.length = 0
  · have hY0' : (Y.length : Int) = 0 := by omega
    have HR5 := hid hr2
    have HS5 := hid hs2
    have hy : Y = [] := List.eq_nil_of_length_eq_zero hY0
    subst hy
    clear hr2 hs2
    go_wp2
    go_ret
    exact ⟨none, 0, E, T, rfl, ⟨rfl, .inl rfl⟩, Nat.le_refl _, by simp [maxLen], by exact HS5.out, by omega, hC2, fun e he => .inl ⟨e, he, rfl⟩⟩
  have hY0' : ¬ (Y.length : Int) = 0 := by omega
  have hYn : Y.length ≠ 0 := hY0
  have HR2 := hid hr2
  have CP := hid (put_any bm U Z T E bs num a' c' Y W5 hs2 HK.out hr2 q4 q5'.out hap (by omega))
  clear hs2 hr2
  go_wp2_with fail
  refine Calls.mono CP.out ?_
  rintro e w3 ⟨rfl, hs3, hC3⟩
  have hC := hC2.trans hC3
  have hr3 : Rd .u8 w3 a' Y.length Y := hid (rd_chg HR2.out hC3 hap)
  have hnv : NewV w E (butN E num ++ [⟨num, T + 1, .slice a' Y.length c'⟩]) := NewV.snoc hnew
  generalize hE3 : butN E num ++ [⟨num, T + 1, .slice a' Y.length c'⟩] = E3 at hs3 hnv
  have HNV := hid hnv
  clear hnv hnew
  have hQe : ftQ Z bs num Y = if Z < ((lessB bs num ++ [((num : Int), Y)]).length : Int) then (lessB bs num ++ [((num : Int), Y)]).drop 1 else lessB bs num ++ [((num : Int), Y)] := if_neg hYn
  generalize hb3 : lessB bs num ++ [((num : Int), Y)] = b3 at hs3 hQe
  have hl3 := hs3.hold.1
  have s1 := hs3.blk.cell 1
  have s3 := hs3.blk.cell 3
  simp at s1 s3
  have hln := fun (q : Nat) (ty : TypeId) => OwnE.len (w := w3.drewN q) (by exact hs3.own) ty
  have hb3l : b3.length ≤ 13 := by
    rw [← hb3, List.length_append]
    have := List.length_filter_le (fun b : Bk => decide (b.1 ≠ (num : Int))) bs
    unfold lessB
    simp at this ⊢
    omega
  rw [hl3] at hln
  have HS3 := hid hs3
  have HR3 := hid hr3
  have HC := hid hC
  have HQE := hid hQe
  clear hs3 hr3 hC hQe hE3 hb3 hC2 hC3 CP m1 c0 c1 cf
  by_cases hZ : Z < (b3.length : Int)
  · have hZd : decide (Z < (b3.length : Int)) = true := decide_eq_true hZ
    go_wp2
    go_quiet (fail)
    go_wp2_with fail
    obtain ⟨b0, br, rfl⟩ : ∃ b0 br, b3 = b0 :: br := by
      cases b3 with
      | nil => simp at hb3l hZ; exact absurd hZ (by have := hZ1; omega)
      | cons b0 br => exact ⟨b0, br, rfl⟩
    obtain ⟨e0, Er, rfl⟩ : ∃ e0 Er, E3 = e0 :: Er := by
      cases E3 with
      | nil => simp at hl3
      | cons e0 Er => exact ⟨e0, Er, rfl⟩
    obtain ⟨V, hV⟩ : ∃ V, V = w3.drewN nq := ⟨_, rfl⟩
    rw [← hV]
    have hb3V : Below w3.heap.size w3 V.drew := by rw [hV]; exact (below_drewN (Below.refl _ _) _).drew
    have hsV : Shelf bm U Z (T + 1) V.drew (e0 :: Er) (b0 :: br) := HS3.out.below hb3V
    have v3 : V.cell? ⟨bm + 1, 3, none⟩ = some (.map (some bm)) := by have q := hsV.blk.cell 3; simpa using q
    have CF := hid (first_any bm U Z (T + 1) e0 Er (b0 :: br) V.drew hsV)
    have HSV := hid hsV
    clear hV hsV
    refine wp_region_held_drew (S := fun w' => w'.cell? ⟨bm + 1, 3, none⟩ = some (.map (some bm))) (by kernel_rfl) (by exact v3) (fun hS => ?_)
    refine wpAnyH_take (i := 0) (v := (.pointer (some ⟨bm + 1, 0, none⟩))) rfl (by as_aux_lemma => kernel_rfl) (by as_aux_lemma => kernel_rfl) (by as_aux_lemma => kernel_rfl) (fun _ _ _ h => h) (Or.inl ⟨by kernel_rfl, ?_⟩) hS ?_
    · intro w hSw; (try dsimp only at hSw); go_simp
    simp only [Act.put, List.getElem_toArray, List.getElem_cons_zero, List.getElem_cons_succ, List.setIfInBounds_toArray, List.set_cons_zero, List.set_cons_succ]
    refine wpAnyH_take (i := 1) (v := (.pointer (some ⟨bm + 1, 0, none⟩))) rfl (by as_aux_lemma => kernel_rfl) (by as_aux_lemma => kernel_rfl) (by as_aux_lemma => kernel_rfl) (fun _ _ _ h => h) (Or.inl ⟨by kernel_rfl, ?_⟩) hS ?_
    · intro w hSw; (try dsimp only at hSw); go_simp
    simp only [Act.put, List.getElem_toArray, List.getElem_cons_zero, List.getElem_cons_succ, List.setIfInBounds_toArray, List.set_cons_zero, List.set_cons_succ]
    refine wpAnyH_take (i := 2) (v := (.pointer (some ⟨bm + 1, 3, none⟩))) rfl (by as_aux_lemma => kernel_rfl) (by as_aux_lemma => kernel_rfl) (by as_aux_lemma => kernel_rfl) (fun _ _ _ h => h) (Or.inl ⟨by kernel_rfl, ?_⟩) hS ?_
    · intro w hSw; (try dsimp only at hSw); go_simp
    simp only [Act.put, List.getElem_toArray, List.getElem_cons_zero, List.getElem_cons_succ, List.setIfInBounds_toArray, List.set_cons_zero, List.set_cons_succ]
    refine wpAnyH_take (i := 3) (v := (.map (some bm))) rfl (by as_aux_lemma => kernel_rfl) (by as_aux_lemma => kernel_rfl) (by as_aux_lemma => kernel_rfl) (fun _ _ _ h => h) (Or.inl ⟨by kernel_rfl, ?_⟩) hS ?_
    · intro w hSw; (try dsimp only at hSw); go_simp
    simp only [Act.put, List.getElem_toArray, List.getElem_cons_zero, List.getElem_cons_succ, List.setIfInBounds_toArray, List.set_cons_zero, List.set_cons_succ]
    refine wpAnyH_take (i := 4) (v := (.pointer (some ⟨bm + 1, 0, none⟩))) rfl (by as_aux_lemma => kernel_rfl) (by as_aux_lemma => kernel_rfl) (by as_aux_lemma => kernel_rfl) (fun _ _ _ h => h) (Or.inl ⟨by kernel_rfl, ?_⟩) hS ?_
    · intro w hSw; (try dsimp only at hSw); go_simp
    simp only [Act.put, List.getElem_toArray, List.getElem_cons_zero, List.getElem_cons_succ, List.setIfInBounds_toArray, List.set_cons_zero, List.set_cons_succ]
    refine wpAnyH_ready (rs := [5]) (by as_aux_lemma => kernel_rfl) (by simp) ?_
    refine AllReadyH.cons rfl (fun K hK => ?_) AllReadyH.nil
    go_simp
    refine Calls.mono CF.out ?_
    rintro e5 w5 ⟨rfl, hb5⟩
    obtain ⟨w6, hdel, own6, hg6, -⟩ := OwnE.drop (HSV.out.below hb5).own ((HSV.out.own).ok e0 List.mem_cons_self) 0
    simp only [kv] at hdel
    refine hK.out _ _ (cell_later hb5 hS) (fun hS => ?_)
    clear hK K
    (try simp only [Act.put, List.getElem_toArray, List.getElem_cons_zero, List.getElem_cons_succ, List.setIfInBounds_toArray, List.set_cons_zero, List.set_cons_succ])
    refine wpAnyH_ready (rs := [6]) (by as_aux_lemma => kernel_rfl) (by simp) ?_
    refine AllReadyH.cons rfl (fun K hK => ?_) AllReadyH.nil
    go_simp
    refine hK.out _ _ (cell_of_grown hg6 (by omega) hS) (fun hS => ?_)
    clear hK K
    refine wpAnyH_done (by kernel_rfl) ?_ _
    clear hS
    go_wp2
    go_ret
    refine ⟨a', c', Er, T + 1, rfl, ?_, q4, q5'.out, ?_, by omega, ?_, fun e he => HNV.out e (List.mem_cons_of_mem _ he)⟩
    · exact rd_chg ((HR3.out.below hb3V).below hb5) (Chg.one hg6) (fun ad had => by rcases hap ad had with q | q | q; exact .inl q; exact .inr (.inl q); exact .inr (.inr (by omega)))
    · rw [HQE.out, if_pos hZ]
      exact Shelf.drop (HSV.out.below hb5) own6 hg6
    · exact HC.out.trans ((Chg.of_below hb3V).trans ((Chg.of_below hb5).trans ((Chg.one hg6).mono (Nat.le_refl _) (by omega))))
  · have hZd : decide (Z < (b3.length : Int)) = false := decide_eq_false hZ
    go_wp2
    go_quiet (fail)
    go_wp2
    go_ret
    refine ⟨a', c', E3, T + 1, rfl, HR3.out, q4, q5'.out, ?_, by omega, ?_, HNV.out⟩
    · rw [HQE.out, if_neg (by omega)]
      first | exact HS3.out | exact HS3.out.below (by first | exact below_drewN (Below.refl _ _) _ | exact (Below.refl _ _).drew)
    · first | exact HC.out | exact HC.out.trans (Chg.of_below (by first | exact below_drewN (Below.refl _ _) _ | exact (Below.refl _ _).drew))
end Go.Proofs.Ytckkkhabjfbngaa
