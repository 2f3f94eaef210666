/-
  Draws of an index and a file: l4With, DrawIndexTrue, DrawCutIndex, DrawNewIndex.
-/
import Derived.Test.YthdglflipeggpaaDraw8
namespace Go.Proofs.Ythdglflipeggpaa
open Go.RowKit
set_option linter.unusedVariables false
set_option linter.unusedSimpArgs false

/-- Where l4With stands: the source, the two boxes that it works on, the two that it answers in. -/
structure St (w W : World) (fb xb : Nat) (E L Z : Int) (va : Value) (ms : List Int) (vf : Value) (ys : List Int) (T : Nat) : Prop where
  src : Src W w.heap.size (w.heap.size + 2) T
  bf : Blk W fb #[vf] 28
  bx : Blk W xb #[.int .i64 E, va, .int .i64 L, .int .i64 Z] 26
  r2 : Blk W w.heap.size #[.int .i64 0, .slice none 0 0, .int .i64 0, .int .i64 0] 26
  r3 : Blk W (w.heap.size + 1) #[.slice none 0 0] 28
  of : Own .u8 5 W (w.heap.size + 3) vf ys.length ys
  ox : Own .i64 2 W (w.heap.size + 3) va ms.length ms
  bel : Below w.heap.size w W
  hf : w.heap.size + 3 ≤ fb
  hx : w.heap.size + 3 ≤ xb
  ne : fb ≠ xb
  l1 : ys.length ≤ 401
  l2 : ms.length ≤ 1000
  by8 : Bytes ys

section
variable {w W W' : World} {fb xb : Nat} {E L Z : Int} {va : Value} {ms : List Int} {vf : Value} {ys : List Int} {T T' : Nat}

theorem St.kept (h : St w W fb xb E L Z va ms vf ys T) (hg : W.grownBy W' (some (w.heap.size + 2))) (hs : Src W' w.heap.size (w.heap.size + 2) T') : St w W' fb xb E L Z va ms vf ys T' := by
  have h1 := h.hf
  have h2 := h.hx
  exact ⟨hs, h.bf.kept hg (by simp; omega), h.bx.kept hg (by simp; omega), h.r2.kept hg (by simp), h.r3.kept hg (by simp),
    Own.kept h.of hg (fun j hj => by have := (h.of.lt j hj).1; simp; omega), Own.kept h.ox hg (fun j hj => by have := (h.ox.lt j hj).1; simp; omega),
    h.bel.grown hg h.bel.size (fun j hj => by cases hj; omega), h1, h2, h.ne, h.l1, h.l2, h.by8⟩

theorem St.alloc (h : St w W fb xb E L Z va ms vf ys T) (o : Obj) : St w (W.alloc o) fb xb E L Z va ms vf ys T :=
  ⟨h.src.alloc o, h.bf.alloc o, h.bx.alloc o, h.r2.alloc o, h.r3.alloc o, World.ownsRow.alloc h.of o, World.ownsRow.alloc h.ox o, h.bel.alloc h.bel.size o, h.hf, h.hx, h.ne, h.l1, h.l2, h.by8⟩

theorem St.below (h : St w W fb xb E L Z va ms vf ys T) (hb : Below W.heap.size W W') : St w W' fb xb E L Z va ms vf ys T :=
  ⟨h.src.kept (grownBy_of_below hb) (by simp), h.bf.below hb, h.bx.below hb, h.r2.below hb, h.r3.below hb, h.of.below hb, h.ox.below hb, h.bel.trans (hb.mono h.bel.size), h.hf, h.hx, h.ne, h.l1, h.l2, h.by8⟩

/-- One number of the index is turned. -/
theorem St.turn (h : St w W fb xb E L Z va ms vf ys T) (i : Nat) (u : Value) {E' L' Z' : Int} (hc : (#[.int .i64 E, va, .int .i64 L, .int .i64 Z] : Array Value).setIfInBounds i u = #[.int .i64 E', va, .int .i64 L', .int .i64 Z']) : St w (W.setCell ⟨xb, i, none⟩ u) fb xb E' L' Z' va ms vf ys T := by
  have h1 := h.hx
  have hg := set_grown W xb i u
  have hb := h.bx.set (i := i) u
  rw [hc] at hb
  exact ⟨h.src.kept hg (fun j hj => by cases hj; omega), h.bf.kept hg (by simp; exact h.ne), hb, h.r2.kept hg (by simp; omega), h.r3.kept hg (by simp; omega),
    Own.kept h.of hg (fun j hj e => h.bx.not_row (by decide) h.of (by rw [hj, e])), Own.kept h.ox hg (fun j hj e => h.bx.not_row (by decide) h.ox (by rw [hj, e])),
    h.bel.setCell (by simp; omega) _, h.hf, h1, h.ne, h.l1, h.l2, h.by8⟩

/-- The file is turned. -/
theorem St.file (h : St w W fb xb E L Z va ms vf ys T) (u : Value) {zs : List Int} (ho : Own .u8 5 W (w.heap.size + 3) u zs.length zs) (hl : zs.length ≤ 401) (hB : Bytes zs) : St w (W.setCell ⟨fb, 0, none⟩ u) fb xb E L Z va ms u zs T := by
  have h1 := h.hf
  have hg := set_grown W fb 0 u
  exact ⟨h.src.kept hg (fun j hj => by cases hj; omega), h.bf.set (i := 0) u, h.bx.kept hg (by simp; exact fun e => h.ne e.symm), h.r2.kept hg (by simp; omega), h.r3.kept hg (by simp; omega),
    Own.kept ho hg (fun j hj e => h.bf.not_row (by decide) ho (by rw [hj, e])), Own.kept h.ox hg (fun j hj e => h.bf.not_row (by decide) h.ox (by rw [hj, e])),
    h.bel.setCell (by simp; omega) _, h1, h.hx, h.ne, hl, h.l2, hB⟩
end


set_option maxRecDepth 20000 in
set_option maxHeartbeats 6400000 in
theorem l4With_any (a : Option Addr) (n ca : Nat) (xs : List Int) (w : World) (ha : Rd .u8 w a n xs) (hB : Bytes xs) (hn : n ≤ 1048576) :
    Calls Try.prog 36 #[.slice a n ca] w fun e w' => ∃ E L Z va ms vf ys, e = .returned (.tuple #[.agg #[.int .i64 E, va, .int .i64 L, .int .i64 Z], .agg #[vf]]) ∧ RowI .i64 2 w' w.heap.size w'.heap.size va ms.length ms ∧ ms.length ≤ 1000 ∧ RowI .u8 5 w' w.heap.size w'.heap.size vf ys.length ys ∧ ys.length ≤ 401 ∧ Bytes ys ∧ Below w.heap.size w w' := by
  have hbt : ∀ o1 o2, Below w.heap.size w ((w.alloc o1).alloc o2) := fun o1 o2 => ((Below.refl _ _).alloc (Nat.le_refl _) o1).alloc (by simp) o2
  go_enter Try.func36, Try.ntmps36
  go_wp2_with fail
  refine (l1Source_any a n ca xs w.heap.size _ (ha.below (hbt _ _)) hB hn (src_below ha) (by simp; omega)).mono ?_
  rintro e w1 ⟨rfl, hs1, hb1⟩
  have hb01 := (hbt _ _).trans (hb1.mono (by simp; omega))
  have q2 : Blk w1 w.heap.size #[.int .i64 0, .slice none 0 0, .int .i64 0, .int .i64 0] 26 := ((Blk.new w _ _).alloc _).below hb1
  have q3 : Blk w1 (w.heap.size + 1) #[.slice none 0 0] 28 := by
    have := (Blk.new (w.alloc (.cells #[.int .i64 0, .slice none 0 0, .int .i64 0, .int .i64 0] 26)) #[.slice none 0 0] 28).below hb1
    simpa using this
  have hs1' : Src w1 w.heap.size (w.heap.size + 2) 0 := by simpa using hs1
  have z1 := hs1'.lt
  rw [show ((w.alloc (.cells #[.int .i64 0, .slice none 0 0, .int .i64 0, .int .i64 0] 26)).alloc (.cells #[.slice none 0 0] 28)).heap.size = w.heap.size + 2 by simp]
  clear hb1 hs1 hbt
  go_wp2_with fail
  refine (l2Bent_any w.heap.size (w.heap.size + 2) 0 w1 hs1' (by omega)).mono ?_
  rintro e w2 ⟨v2, ys, rfl, o2, hyl, hyb, hs2, hg2⟩
  have z2 := hg2.size
  have hb02 := below_src hb01 hg2 (by omega)
  have q2' := q2.kept hg2 (by simp)
  have q3' := q3.kept hg2 (by simp)
  obtain ⟨a2, k2, rfl, -⟩ := o2.shape
  have o2u := Own.up (base' := w.heap.size + 3) o2.1 (by omega)
  have O2 := hid o2
  have O2u := hid o2u
  have Q2 := hid q2'
  have Q3 := hid q3'
  clear hg2 hs1' q2 q3 hb01 o2 q2' q3' o2u
  have NB : ∀ o, Below w2.heap.size w2 (w2.alloc o) := fun o => (Below.refl _ _).alloc (Nat.le_refl _) o
  go_wp2_with fail
  refine (l4Draw_any w.heap.size (w.heap.size + 2) (0 + 1100) w2.heap.size w1.heap.size w2.heap.size a2 ys.length k2 ys _ (hs2.alloc _) (by omega) (by simp; omega) (by simp [go_sem]) (O2.out.below (NB _)) (by omega) (by omega) hyl).mono ?_
  rintro e w3 ⟨E, v3, ms, L, Z, rfl, o3, hml, hs3, hg3⟩
  have z3 := hg3.size
  rw [World.size_alloc] at z3
  have hb03 := (hb02.trans ((NB _).mono hb02.size)).grown hg3 (by have := hb02.size; simp; omega) (fun j hj => by cases hj; omega)
  have bf3 := (Blk.new w2 #[.slice a2 ys.length k2] 28).kept hg3 (by simp; omega)
  have q23 := (Q2.out.alloc _).kept hg3 (by simp)
  have q33 := (Q3.out.alloc _).kept hg3 (by simp)
  have o23 := Own.kept (World.ownsRow.alloc O2u.out _) hg3 (fun j hj => by have := (O2u.out.lt j hj).1; simp; omega)
  obtain ⟨a3, k3, rfl, -⟩ := o3.shape
  have hst0 : St w (w3.alloc (.cells #[.int .i64 E, .slice a3 ms.length k3, .int .i64 L, .int .i64 Z] 26)) w2.heap.size w3.heap.size E L Z (.slice a3 ms.length k3) ms (.slice a2 ys.length k2) ys (0 + 1100 + 2) :=
    ⟨hs3.alloc _, bf3.alloc _, Blk.new _ _ _, q23.alloc _, q33.alloc _, World.ownsRow.alloc o23 _, World.ownsRow.alloc (Own.up o3.1 (by simp; omega)) _, hb03.alloc hb03.size _, by omega, by omega, by omega, hyl, hml, hyb⟩
  have HST0 := hid hst0
  clear hst0 bf3 q23 q33 o23 o3 hs3 hg3 hb03 hs2 O2 O2u Q2 Q3 hb02 NB
  go_wp2_with fail
  refine (l1Next_any w.heap.size (w.heap.size + 2) (0 + 1100 + 2) 14 _ HST0.out.src (by omega) (by omega)).mono ?_
  rintro e w4 ⟨r, rfl, hr, hs4, hg4⟩
  obtain ⟨hr0, hr1⟩ := hr.2 (by omega)
  have hst4 := HST0.out.kept hg4 hs4
  clear HST0 hg4 hs4 hr
  generalize w2.heap.size = fb at *
  generalize w3.heap.size = xb at *
  generalize (Value.slice a3 ms.length k3) = va at hst4
  generalize (Value.slice a2 ys.length k2) = vf at hst4
  by_cases c0 : r = 0
  · subst c0
    have lit := lit_rd (k := .i64) (e := 2) w4 [0, 9, 10] 3 rfl (by simp [maxLen])
    have hst4' := hst4.alloc (.cells (([0, 9, 10] : List Int).map (Value.int .i64)).toArray 2)
    simp only [List.map_cons, List.map_nil] at lit hst4'
    have z4 := hst4.src.lt
    go_wp2_with fail
    refine (l1Pick_any w.heap.size (w.heap.size + 2) _ w4.heap.size 3 [0, 9, 10] _ hst4'.src (by omega) rfl (by omega) (by omega) (by omega) lit).mono ?_
    rintro e w5 ⟨q, rfl, -, hs5, hg5⟩
    have hst5 := hst4'.kept hg5 hs5
    have u0 := hst5.bx.cell 0
    have uf0 := hst5.bx.frozen 0
    simp at u0
    have hst := hst5.turn 0 (.int .i64 q) (E' := q) (L' := L) (Z' := Z) rfl
    have HS := hid hst
    clear hst hst4' hst4 hst5 lit hg5 hs5
    go_wp2
    have hst := HS.out
    clear HS
    generalize w5.setCell ⟨xb, 0, none⟩ (.int .i64 q) = W at *
    obtain ⟨af, kf, rfl, -⟩ := hst.of.rdc
    obtain ⟨ax, kx, rfl, -⟩ := hst.ox.rdc
    have x0 : W.cell? ⟨xb, 0, none⟩ = some (.int .i64 q) := hst.bx.cell 0
    have x1 : W.cell? ⟨xb, 1, none⟩ = some (.slice ax ms.length kx) := hst.bx.cell 1
    have x2 : W.cell? ⟨xb, 2, none⟩ = some (.int .i64 L) := hst.bx.cell 2
    have x3 : W.cell? ⟨xb, 3, none⟩ = some (.int .i64 Z) := hst.bx.cell 3
    have f0 : W.cell? ⟨fb, 0, none⟩ = some (.slice af ys.length kf) := hst.bf.cell 0
    have y0 : W.cell? ⟨w.heap.size, 0, none⟩ = some (.int .i64 0) := hst.r2.cell 0
    have yf0 := hst.r2.frozen 0
    have y1 : W.cell? ⟨w.heap.size, 1, none⟩ = some (.slice none 0 0) := hst.r2.cell 1
    have yf1 := hst.r2.frozen 1
    have y2 : W.cell? ⟨w.heap.size, 2, none⟩ = some (.int .i64 0) := hst.r2.cell 2
    have yf2 := hst.r2.frozen 2
    have y3 : W.cell? ⟨w.heap.size, 3, none⟩ = some (.int .i64 0) := hst.r2.cell 3
    have yf3 := hst.r2.frozen 3
    have z0 : W.cell? ⟨w.heap.size + 1, 0, none⟩ = some (.slice none 0 0) := hst.r3.cell 0
    have zf0 := hst.r3.frozen 0
    have h1 := hst.hf
    have h2 := hst.hx
    have n1 : xb ≠ w.heap.size := by omega
    have n2 : fb ≠ w.heap.size := by omega
    have n3 : xb ≠ w.heap.size + 1 := by omega
    have n4 : fb ≠ w.heap.size + 1 := by omega
    have HST := hid hst
    clear hst
    refine wp_region_held_drew (S := fun w' => w'.cell? ⟨xb, 0, none⟩ = some (.int .i64 q) ∧ w'.cell? ⟨xb, 1, none⟩ = some (.slice ax ms.length kx) ∧ w'.cell? ⟨xb, 2, none⟩ = some (.int .i64 L) ∧ w'.cell? ⟨xb, 3, none⟩ = some (.int .i64 Z) ∧ w'.cell? ⟨fb, 0, none⟩ = some (.slice af ys.length kf)) (by kernel_rfl) (by exact ⟨x0, x1, x2, x3, f0⟩) (fun hS => ?_)
    refine wpAnyH_take (i := 0) (v := (.agg #[.int .i64 q, .slice ax ms.length kx, .int .i64 L, .int .i64 Z])) rfl (by as_aux_lemma => kernel_rfl) (by as_aux_lemma => kernel_rfl) (by as_aux_lemma => kernel_rfl) (fun _ _ _ h => h) (Or.inl ⟨by kernel_rfl, ?_⟩) hS ?_
    · intro w hSw; (try dsimp only at hSw); go_simp
    simp only [Act.put, List.getElem_toArray, List.getElem_cons_zero, List.getElem_cons_succ, List.setIfInBounds_toArray, List.set_cons_zero, List.set_cons_succ]
    refine wpAnyH_take (i := 1) (v := (.agg #[.slice af ys.length kf])) rfl (by as_aux_lemma => kernel_rfl) (by as_aux_lemma => kernel_rfl) (by as_aux_lemma => kernel_rfl) (fun _ _ _ h => h) (Or.inl ⟨by kernel_rfl, ?_⟩) hS ?_
    · intro w hSw; (try dsimp only at hSw); go_simp
    simp only [Act.put, List.getElem_toArray, List.getElem_cons_zero, List.getElem_cons_succ, List.setIfInBounds_toArray, List.set_cons_zero, List.set_cons_succ]
    refine wpAnyH_ready (rs := [2]) (by as_aux_lemma => kernel_rfl) (by simp) ?_
    refine AllReadyH.cons rfl (fun K hK => ?_) AllReadyH.nil
    go_simp
    have g4 : W.grownBy ((((W.setCell ⟨w.heap.size, 0, none⟩ (.int .i64 q)).setCell ⟨w.heap.size, 1, none⟩ (.slice ax ms.length kx)).setCell ⟨w.heap.size, 2, none⟩ (.int .i64 L)).setCell ⟨w.heap.size, 3, none⟩ (.int .i64 Z)).drew (some w.heap.size) := grownBy_trans (grownBy_trans (grownBy_trans (grownBy_trans (set_grown W w.heap.size 0 (.int .i64 q)) (set_grown _ w.heap.size 1 (.slice ax ms.length kx))) (set_grown _ w.heap.size 2 (.int .i64 L))) (set_grown _ w.heap.size 3 (.int .i64 Z))) ⟨rfl, rfl, rfl, Nat.le_refl _, fun _ _ _ => rfl⟩
    have mx0 := grown_cell g4 x0 (fun j hj => by cases hj; exact n1)
    have mx1 := grown_cell g4 x1 (fun j hj => by cases hj; exact n1)
    have mx2 := grown_cell g4 x2 (fun j hj => by cases hj; exact n1)
    have mx3 := grown_cell g4 x3 (fun j hj => by cases hj; exact n1)
    have mf0 := grown_cell g4 f0 (fun j hj => by cases hj; exact n2)
    have rV : Blk ((((W.setCell ⟨w.heap.size, 0, none⟩ (.int .i64 q)).setCell ⟨w.heap.size, 1, none⟩ (.slice ax ms.length kx)).setCell ⟨w.heap.size, 2, none⟩ (.int .i64 L)).setCell ⟨w.heap.size, 3, none⟩ (.int .i64 Z)).drew w.heap.size #[.int .i64 q, .slice ax ms.length kx, .int .i64 L, .int .i64 Z] 26 := ((((HST.out.r2.set (i := 0) (.int .i64 q)).set (i := 1) (.slice ax ms.length kx)).set (i := 2) (.int .i64 L)).set (i := 3) (.int .i64 Z))
    have zV : Blk ((((W.setCell ⟨w.heap.size, 0, none⟩ (.int .i64 q)).setCell ⟨w.heap.size, 1, none⟩ (.slice ax ms.length kx)).setCell ⟨w.heap.size, 2, none⟩ (.int .i64 L)).setCell ⟨w.heap.size, 3, none⟩ (.int .i64 Z)).drew (w.heap.size + 1) #[.slice none 0 0] 28 := HST.out.r3.kept g4 (by simp)
    have oxV : Own .i64 2 ((((W.setCell ⟨w.heap.size, 0, none⟩ (.int .i64 q)).setCell ⟨w.heap.size, 1, none⟩ (.slice ax ms.length kx)).setCell ⟨w.heap.size, 2, none⟩ (.int .i64 L)).setCell ⟨w.heap.size, 3, none⟩ (.int .i64 Z)).drew (w.heap.size + 3) (.slice ax ms.length kx) ms.length ms := (Own.setBelow (a := ⟨w.heap.size, 3, none⟩) (Own.setBelow (a := ⟨w.heap.size, 2, none⟩) (Own.setBelow (a := ⟨w.heap.size, 1, none⟩) (Own.setBelow (a := ⟨w.heap.size, 0, none⟩) HST.out.ox (by simp) (.int .i64 q)) (by simp) (.slice ax ms.length kx)) (by simp) (.int .i64 L)) (by simp) (.int .i64 Z))
    have ofV : Own .u8 5 ((((W.setCell ⟨w.heap.size, 0, none⟩ (.int .i64 q)).setCell ⟨w.heap.size, 1, none⟩ (.slice ax ms.length kx)).setCell ⟨w.heap.size, 2, none⟩ (.int .i64 L)).setCell ⟨w.heap.size, 3, none⟩ (.int .i64 Z)).drew (w.heap.size + 3) (.slice af ys.length kf) ys.length ys := (Own.setBelow (a := ⟨w.heap.size, 3, none⟩) (Own.setBelow (a := ⟨w.heap.size, 2, none⟩) (Own.setBelow (a := ⟨w.heap.size, 1, none⟩) (Own.setBelow (a := ⟨w.heap.size, 0, none⟩) HST.out.of (by simp) (.int .i64 q)) (by simp) (.slice ax ms.length kx)) (by simp) (.int .i64 L)) (by simp) (.int .i64 Z))
    have beV : Below w.heap.size w ((((W.setCell ⟨w.heap.size, 0, none⟩ (.int .i64 q)).setCell ⟨w.heap.size, 1, none⟩ (.slice ax ms.length kx)).setCell ⟨w.heap.size, 2, none⟩ (.int .i64 L)).setCell ⟨w.heap.size, 3, none⟩ (.int .i64 Z)).drew := HST.out.bel.grown g4 HST.out.bel.size (fun j hj => by cases hj; exact Nat.le_refl _)
    clear g4 y0 y1 y2 y3 yf0 yf1 yf2 yf3 z0 zf0 x0 x1 x2 x3 f0 hS
    generalize ((((W.setCell ⟨w.heap.size, 0, none⟩ (.int .i64 q)).setCell ⟨w.heap.size, 1, none⟩ (.slice ax ms.length kx)).setCell ⟨w.heap.size, 2, none⟩ (.int .i64 L)).setCell ⟨w.heap.size, 3, none⟩ (.int .i64 Z)).drew = V at *
    refine hK.out _ _ ⟨mx0, mx1, mx2, mx3, mf0⟩ (fun hS => ?_)
    clear hK K mx0 mx1 mx2 mx3 mf0
    have y0 : V.cell? ⟨w.heap.size, 0, none⟩ = some (.int .i64 q) := rV.cell 0
    have y1 : V.cell? ⟨w.heap.size, 1, none⟩ = some (.slice ax ms.length kx) := rV.cell 1
    have y2 : V.cell? ⟨w.heap.size, 2, none⟩ = some (.int .i64 L) := rV.cell 2
    have y3 : V.cell? ⟨w.heap.size, 3, none⟩ = some (.int .i64 Z) := rV.cell 3
    have z0 : V.cell? ⟨w.heap.size + 1, 0, none⟩ = some (.slice none 0 0) := zV.cell 0
    have zf0 := zV.frozen 0
    have OX := hid oxV
    have OF := hid ofV
    clear rV zV oxV ofV
    refine wpAnyH_ready (rs := [3]) (by as_aux_lemma => kernel_rfl) (by simp) ?_
    refine AllReadyH.cons rfl (fun K hK => ?_) AllReadyH.nil
    go_simp
    have g5 := set_grown V (w.heap.size + 1) 0 (.slice af ys.length kf)
    refine hK.out _ _ ⟨grown_cell g5 hS.1 (fun j hj => by cases hj; exact n3), grown_cell g5 hS.2.1 (fun j hj => by cases hj; exact n3), grown_cell g5 hS.2.2.1 (fun j hj => by cases hj; exact n3), grown_cell g5 hS.2.2.2.1 (fun j hj => by cases hj; exact n3), grown_cell g5 hS.2.2.2.2 (fun j hj => by cases hj; exact n4)⟩ (fun hS => ?_)
    clear hK K g5
    refine wpAnyH_done (by kernel_rfl) ?_ _
    clear hS
    go_wp2
    refine bodyPost_ret (v := .tuple #[.agg #[.int .i64 q, .slice ax ms.length kx, .int .i64 L, .int .i64 Z], .agg #[.slice af ys.length kf]]) (by simp [results, Try.results36, go_sem, y0, y1, y2, y3, z0]) rfl ⟨q, L, Z, _, ms, _, ys, rfl, ?_, HST.out.l2, ?_, HST.out.l1, HST.out.by8, beV.setCell (by simp) _⟩
    · exact RowI.mono (RowI.of (Own.setBelow OX.out (by simp) _)) (by omega) (Nat.le_refl _)
    · exact RowI.mono (RowI.of (Own.setBelow OF.out (by simp) _)) (by omega) (Nat.le_refl _)
  by_cases c1 : r = 1
  · subst c1
    have lit := lit_rd (k := .i64) (e := 2) w4 [-1, 0, 3] 3 rfl (by simp [maxLen])
    have hst4' := hst4.alloc (.cells (([-1, 0, 3] : List Int).map (Value.int .i64)).toArray 2)
    simp only [List.map_cons, List.map_nil] at lit hst4'
    have z4 := hst4.src.lt
    go_wp2_with fail
    refine (l1Pick_any w.heap.size (w.heap.size + 2) _ w4.heap.size 3 [-1, 0, 3] _ hst4'.src (by omega) rfl (by omega) (by omega) (by omega) lit).mono ?_
    rintro e w5 ⟨q, rfl, -, hs5, hg5⟩
    have hst5 := hst4'.kept hg5 hs5
    have u2 := hst5.bx.cell 2
    have uf2 := hst5.bx.frozen 2
    simp at u2
    have hst := hst5.turn 2 (.int .i64 q) (E' := E) (L' := q) (Z' := Z) rfl
    have HS := hid hst
    clear hst hst4' hst4 hst5 lit hg5 hs5
    go_wp2
    have hst := HS.out
    clear HS
    generalize w5.setCell ⟨xb, 2, none⟩ (.int .i64 q) = W at *
    obtain ⟨af, kf, rfl, -⟩ := hst.of.rdc
    obtain ⟨ax, kx, rfl, -⟩ := hst.ox.rdc
    have x0 : W.cell? ⟨xb, 0, none⟩ = some (.int .i64 E) := hst.bx.cell 0
    have x1 : W.cell? ⟨xb, 1, none⟩ = some (.slice ax ms.length kx) := hst.bx.cell 1
    have x2 : W.cell? ⟨xb, 2, none⟩ = some (.int .i64 q) := hst.bx.cell 2
    have x3 : W.cell? ⟨xb, 3, none⟩ = some (.int .i64 Z) := hst.bx.cell 3
    have f0 : W.cell? ⟨fb, 0, none⟩ = some (.slice af ys.length kf) := hst.bf.cell 0
    have y0 : W.cell? ⟨w.heap.size, 0, none⟩ = some (.int .i64 0) := hst.r2.cell 0
    have yf0 := hst.r2.frozen 0
    have y1 : W.cell? ⟨w.heap.size, 1, none⟩ = some (.slice none 0 0) := hst.r2.cell 1
    have yf1 := hst.r2.frozen 1
    have y2 : W.cell? ⟨w.heap.size, 2, none⟩ = some (.int .i64 0) := hst.r2.cell 2
    have yf2 := hst.r2.frozen 2
    have y3 : W.cell? ⟨w.heap.size, 3, none⟩ = some (.int .i64 0) := hst.r2.cell 3
    have yf3 := hst.r2.frozen 3
    have z0 : W.cell? ⟨w.heap.size + 1, 0, none⟩ = some (.slice none 0 0) := hst.r3.cell 0
    have zf0 := hst.r3.frozen 0
    have h1 := hst.hf
    have h2 := hst.hx
    have n1 : xb ≠ w.heap.size := by omega
    have n2 : fb ≠ w.heap.size := by omega
    have n3 : xb ≠ w.heap.size + 1 := by omega
    have n4 : fb ≠ w.heap.size + 1 := by omega
    have HST := hid hst
    clear hst
    refine wp_region_held_drew (S := fun w' => w'.cell? ⟨xb, 0, none⟩ = some (.int .i64 E) ∧ w'.cell? ⟨xb, 1, none⟩ = some (.slice ax ms.length kx) ∧ w'.cell? ⟨xb, 2, none⟩ = some (.int .i64 q) ∧ w'.cell? ⟨xb, 3, none⟩ = some (.int .i64 Z) ∧ w'.cell? ⟨fb, 0, none⟩ = some (.slice af ys.length kf)) (by kernel_rfl) (by exact ⟨x0, x1, x2, x3, f0⟩) (fun hS => ?_)
    refine wpAnyH_take (i := 0) (v := (.agg #[.int .i64 E, .slice ax ms.length kx, .int .i64 q, .int .i64 Z])) rfl (by as_aux_lemma => kernel_rfl) (by as_aux_lemma => kernel_rfl) (by as_aux_lemma => kernel_rfl) (fun _ _ _ h => h) (Or.inl ⟨by kernel_rfl, ?_⟩) hS ?_
    · intro w hSw; (try dsimp only at hSw); go_simp
    simp only [Act.put, List.getElem_toArray, List.getElem_cons_zero, List.getElem_cons_succ, List.setIfInBounds_toArray, List.set_cons_zero, List.set_cons_succ]
    refine wpAnyH_take (i := 1) (v := (.agg #[.slice af ys.length kf])) rfl (by as_aux_lemma => kernel_rfl) (by as_aux_lemma => kernel_rfl) (by as_aux_lemma => kernel_rfl) (fun _ _ _ h => h) (Or.inl ⟨by kernel_rfl, ?_⟩) hS ?_
    · intro w hSw; (try dsimp only at hSw); go_simp
    simp only [Act.put, List.getElem_toArray, List.getElem_cons_zero, List.getElem_cons_succ, List.setIfInBounds_toArray, List.set_cons_zero, List.set_cons_succ]
    refine wpAnyH_ready (rs := [2]) (by as_aux_lemma => kernel_rfl) (by simp) ?_
    refine AllReadyH.cons rfl (fun K hK => ?_) AllReadyH.nil
    go_simp
    have g4 : W.grownBy ((((W.setCell ⟨w.heap.size, 0, none⟩ (.int .i64 E)).setCell ⟨w.heap.size, 1, none⟩ (.slice ax ms.length kx)).setCell ⟨w.heap.size, 2, none⟩ (.int .i64 q)).setCell ⟨w.heap.size, 3, none⟩ (.int .i64 Z)).drew (some w.heap.size) := grownBy_trans (grownBy_trans (grownBy_trans (grownBy_trans (set_grown W w.heap.size 0 (.int .i64 E)) (set_grown _ w.heap.size 1 (.slice ax ms.length kx))) (set_grown _ w.heap.size 2 (.int .i64 q))) (set_grown _ w.heap.size 3 (.int .i64 Z))) ⟨rfl, rfl, rfl, Nat.le_refl _, fun _ _ _ => rfl⟩
    have mx0 := grown_cell g4 x0 (fun j hj => by cases hj; exact n1)
    have mx1 := grown_cell g4 x1 (fun j hj => by cases hj; exact n1)
    have mx2 := grown_cell g4 x2 (fun j hj => by cases hj; exact n1)
    have mx3 := grown_cell g4 x3 (fun j hj => by cases hj; exact n1)
    have mf0 := grown_cell g4 f0 (fun j hj => by cases hj; exact n2)
    have rV : Blk ((((W.setCell ⟨w.heap.size, 0, none⟩ (.int .i64 E)).setCell ⟨w.heap.size, 1, none⟩ (.slice ax ms.length kx)).setCell ⟨w.heap.size, 2, none⟩ (.int .i64 q)).setCell ⟨w.heap.size, 3, none⟩ (.int .i64 Z)).drew w.heap.size #[.int .i64 E, .slice ax ms.length kx, .int .i64 q, .int .i64 Z] 26 := ((((HST.out.r2.set (i := 0) (.int .i64 E)).set (i := 1) (.slice ax ms.length kx)).set (i := 2) (.int .i64 q)).set (i := 3) (.int .i64 Z))
    have zV : Blk ((((W.setCell ⟨w.heap.size, 0, none⟩ (.int .i64 E)).setCell ⟨w.heap.size, 1, none⟩ (.slice ax ms.length kx)).setCell ⟨w.heap.size, 2, none⟩ (.int .i64 q)).setCell ⟨w.heap.size, 3, none⟩ (.int .i64 Z)).drew (w.heap.size + 1) #[.slice none 0 0] 28 := HST.out.r3.kept g4 (by simp)
    have oxV : Own .i64 2 ((((W.setCell ⟨w.heap.size, 0, none⟩ (.int .i64 E)).setCell ⟨w.heap.size, 1, none⟩ (.slice ax ms.length kx)).setCell ⟨w.heap.size, 2, none⟩ (.int .i64 q)).setCell ⟨w.heap.size, 3, none⟩ (.int .i64 Z)).drew (w.heap.size + 3) (.slice ax ms.length kx) ms.length ms := (Own.setBelow (a := ⟨w.heap.size, 3, none⟩) (Own.setBelow (a := ⟨w.heap.size, 2, none⟩) (Own.setBelow (a := ⟨w.heap.size, 1, none⟩) (Own.setBelow (a := ⟨w.heap.size, 0, none⟩) HST.out.ox (by simp) (.int .i64 E)) (by simp) (.slice ax ms.length kx)) (by simp) (.int .i64 q)) (by simp) (.int .i64 Z))
    have ofV : Own .u8 5 ((((W.setCell ⟨w.heap.size, 0, none⟩ (.int .i64 E)).setCell ⟨w.heap.size, 1, none⟩ (.slice ax ms.length kx)).setCell ⟨w.heap.size, 2, none⟩ (.int .i64 q)).setCell ⟨w.heap.size, 3, none⟩ (.int .i64 Z)).drew (w.heap.size + 3) (.slice af ys.length kf) ys.length ys := (Own.setBelow (a := ⟨w.heap.size, 3, none⟩) (Own.setBelow (a := ⟨w.heap.size, 2, none⟩) (Own.setBelow (a := ⟨w.heap.size, 1, none⟩) (Own.setBelow (a := ⟨w.heap.size, 0, none⟩) HST.out.of (by simp) (.int .i64 E)) (by simp) (.slice ax ms.length kx)) (by simp) (.int .i64 q)) (by simp) (.int .i64 Z))
    have beV : Below w.heap.size w ((((W.setCell ⟨w.heap.size, 0, none⟩ (.int .i64 E)).setCell ⟨w.heap.size, 1, none⟩ (.slice ax ms.length kx)).setCell ⟨w.heap.size, 2, none⟩ (.int .i64 q)).setCell ⟨w.heap.size, 3, none⟩ (.int .i64 Z)).drew := HST.out.bel.grown g4 HST.out.bel.size (fun j hj => by cases hj; exact Nat.le_refl _)
    clear g4 y0 y1 y2 y3 yf0 yf1 yf2 yf3 z0 zf0 x0 x1 x2 x3 f0 hS
    generalize ((((W.setCell ⟨w.heap.size, 0, none⟩ (.int .i64 E)).setCell ⟨w.heap.size, 1, none⟩ (.slice ax ms.length kx)).setCell ⟨w.heap.size, 2, none⟩ (.int .i64 q)).setCell ⟨w.heap.size, 3, none⟩ (.int .i64 Z)).drew = V at *
    refine hK.out _ _ ⟨mx0, mx1, mx2, mx3, mf0⟩ (fun hS => ?_)
    clear hK K mx0 mx1 mx2 mx3 mf0
    have y0 : V.cell? ⟨w.heap.size, 0, none⟩ = some (.int .i64 E) := rV.cell 0
    have y1 : V.cell? ⟨w.heap.size, 1, none⟩ = some (.slice ax ms.length kx) := rV.cell 1
    have y2 : V.cell? ⟨w.heap.size, 2, none⟩ = some (.int .i64 q) := rV.cell 2
    have y3 : V.cell? ⟨w.heap.size, 3, none⟩ = some (.int .i64 Z) := rV.cell 3
    have z0 : V.cell? ⟨w.heap.size + 1, 0, none⟩ = some (.slice none 0 0) := zV.cell 0
    have zf0 := zV.frozen 0
    have OX := hid oxV
    have OF := hid ofV
    clear rV zV oxV ofV
    refine wpAnyH_ready (rs := [3]) (by as_aux_lemma => kernel_rfl) (by simp) ?_
    refine AllReadyH.cons rfl (fun K hK => ?_) AllReadyH.nil
    go_simp
    have g5 := set_grown V (w.heap.size + 1) 0 (.slice af ys.length kf)
    refine hK.out _ _ ⟨grown_cell g5 hS.1 (fun j hj => by cases hj; exact n3), grown_cell g5 hS.2.1 (fun j hj => by cases hj; exact n3), grown_cell g5 hS.2.2.1 (fun j hj => by cases hj; exact n3), grown_cell g5 hS.2.2.2.1 (fun j hj => by cases hj; exact n3), grown_cell g5 hS.2.2.2.2 (fun j hj => by cases hj; exact n4)⟩ (fun hS => ?_)
    clear hK K g5
    refine wpAnyH_done (by kernel_rfl) ?_ _
    clear hS
    go_wp2
    refine bodyPost_ret (v := .tuple #[.agg #[.int .i64 E, .slice ax ms.length kx, .int .i64 q, .int .i64 Z], .agg #[.slice af ys.length kf]]) (by simp [results, Try.results36, go_sem, y0, y1, y2, y3, z0]) rfl ⟨E, q, Z, _, ms, _, ys, rfl, ?_, HST.out.l2, ?_, HST.out.l1, HST.out.by8, beV.setCell (by simp) _⟩
    · exact RowI.mono (RowI.of (Own.setBelow OX.out (by simp) _)) (by omega) (Nat.le_refl _)
    · exact RowI.mono (RowI.of (Own.setBelow OF.out (by simp) _)) (by omega) (Nat.le_refl _)
  by_cases c2 : r = 2
  · subst c2
    have lit := lit_rd (k := .i64) (e := 2) w4 [0, 401, -1] 3 rfl (by simp [maxLen])
    have hst4' := hst4.alloc (.cells (([0, 401, -1] : List Int).map (Value.int .i64)).toArray 2)
    simp only [List.map_cons, List.map_nil] at lit hst4'
    have z4 := hst4.src.lt
    go_wp2_with fail
    refine (l1Pick_any w.heap.size (w.heap.size + 2) _ w4.heap.size 3 [0, 401, -1] _ hst4'.src (by omega) rfl (by omega) (by omega) (by omega) lit).mono ?_
    rintro e w5 ⟨q, rfl, -, hs5, hg5⟩
    have hst5 := hst4'.kept hg5 hs5
    have u3 := hst5.bx.cell 3
    have uf3 := hst5.bx.frozen 3
    simp at u3
    have hst := hst5.turn 3 (.int .i64 q) (E' := E) (L' := L) (Z' := q) rfl
    have HS := hid hst
    clear hst hst4' hst4 hst5 lit hg5 hs5
    go_wp2
    have hst := HS.out
    clear HS
    generalize w5.setCell ⟨xb, 3, none⟩ (.int .i64 q) = W at *
    obtain ⟨af, kf, rfl, -⟩ := hst.of.rdc
    obtain ⟨ax, kx, rfl, -⟩ := hst.ox.rdc
    have x0 : W.cell? ⟨xb, 0, none⟩ = some (.int .i64 E) := hst.bx.cell 0
    have x1 : W.cell? ⟨xb, 1, none⟩ = some (.slice ax ms.length kx) := hst.bx.cell 1
    have x2 : W.cell? ⟨xb, 2, none⟩ = some (.int .i64 L) := hst.bx.cell 2
    have x3 : W.cell? ⟨xb, 3, none⟩ = some (.int .i64 q) := hst.bx.cell 3
    have f0 : W.cell? ⟨fb, 0, none⟩ = some (.slice af ys.length kf) := hst.bf.cell 0
    have y0 : W.cell? ⟨w.heap.size, 0, none⟩ = some (.int .i64 0) := hst.r2.cell 0
    have yf0 := hst.r2.frozen 0
    have y1 : W.cell? ⟨w.heap.size, 1, none⟩ = some (.slice none 0 0) := hst.r2.cell 1
    have yf1 := hst.r2.frozen 1
    have y2 : W.cell? ⟨w.heap.size, 2, none⟩ = some (.int .i64 0) := hst.r2.cell 2
    have yf2 := hst.r2.frozen 2
    have y3 : W.cell? ⟨w.heap.size, 3, none⟩ = some (.int .i64 0) := hst.r2.cell 3
    have yf3 := hst.r2.frozen 3
    have z0 : W.cell? ⟨w.heap.size + 1, 0, none⟩ = some (.slice none 0 0) := hst.r3.cell 0
    have zf0 := hst.r3.frozen 0
    have h1 := hst.hf
    have h2 := hst.hx
    have n1 : xb ≠ w.heap.size := by omega
    have n2 : fb ≠ w.heap.size := by omega
    have n3 : xb ≠ w.heap.size + 1 := by omega
    have n4 : fb ≠ w.heap.size + 1 := by omega
    have HST := hid hst
    clear hst
    refine wp_region_held_drew (S := fun w' => w'.cell? ⟨xb, 0, none⟩ = some (.int .i64 E) ∧ w'.cell? ⟨xb, 1, none⟩ = some (.slice ax ms.length kx) ∧ w'.cell? ⟨xb, 2, none⟩ = some (.int .i64 L) ∧ w'.cell? ⟨xb, 3, none⟩ = some (.int .i64 q) ∧ w'.cell? ⟨fb, 0, none⟩ = some (.slice af ys.length kf)) (by kernel_rfl) (by exact ⟨x0, x1, x2, x3, f0⟩) (fun hS => ?_)
    refine wpAnyH_take (i := 0) (v := (.agg #[.int .i64 E, .slice ax ms.length kx, .int .i64 L, .int .i64 q])) rfl (by as_aux_lemma => kernel_rfl) (by as_aux_lemma => kernel_rfl) (by as_aux_lemma => kernel_rfl) (fun _ _ _ h => h) (Or.inl ⟨by kernel_rfl, ?_⟩) hS ?_
    · intro w hSw; (try dsimp only at hSw); go_simp
    simp only [Act.put, List.getElem_toArray, List.getElem_cons_zero, List.getElem_cons_succ, List.setIfInBounds_toArray, List.set_cons_zero, List.set_cons_succ]
    refine wpAnyH_take (i := 1) (v := (.agg #[.slice af ys.length kf])) rfl (by as_aux_lemma => kernel_rfl) (by as_aux_lemma => kernel_rfl) (by as_aux_lemma => kernel_rfl) (fun _ _ _ h => h) (Or.inl ⟨by kernel_rfl, ?_⟩) hS ?_
    · intro w hSw; (try dsimp only at hSw); go_simp
    simp only [Act.put, List.getElem_toArray, List.getElem_cons_zero, List.getElem_cons_succ, List.setIfInBounds_toArray, List.set_cons_zero, List.set_cons_succ]
    refine wpAnyH_ready (rs := [2]) (by as_aux_lemma => kernel_rfl) (by simp) ?_
    refine AllReadyH.cons rfl (fun K hK => ?_) AllReadyH.nil
    go_simp
    have g4 : W.grownBy ((((W.setCell ⟨w.heap.size, 0, none⟩ (.int .i64 E)).setCell ⟨w.heap.size, 1, none⟩ (.slice ax ms.length kx)).setCell ⟨w.heap.size, 2, none⟩ (.int .i64 L)).setCell ⟨w.heap.size, 3, none⟩ (.int .i64 q)).drew (some w.heap.size) := grownBy_trans (grownBy_trans (grownBy_trans (grownBy_trans (set_grown W w.heap.size 0 (.int .i64 E)) (set_grown _ w.heap.size 1 (.slice ax ms.length kx))) (set_grown _ w.heap.size 2 (.int .i64 L))) (set_grown _ w.heap.size 3 (.int .i64 q))) ⟨rfl, rfl, rfl, Nat.le_refl _, fun _ _ _ => rfl⟩
    have mx0 := grown_cell g4 x0 (fun j hj => by cases hj; exact n1)
    have mx1 := grown_cell g4 x1 (fun j hj => by cases hj; exact n1)
    have mx2 := grown_cell g4 x2 (fun j hj => by cases hj; exact n1)
    have mx3 := grown_cell g4 x3 (fun j hj => by cases hj; exact n1)
    have mf0 := grown_cell g4 f0 (fun j hj => by cases hj; exact n2)
    have rV : Blk ((((W.setCell ⟨w.heap.size, 0, none⟩ (.int .i64 E)).setCell ⟨w.heap.size, 1, none⟩ (.slice ax ms.length kx)).setCell ⟨w.heap.size, 2, none⟩ (.int .i64 L)).setCell ⟨w.heap.size, 3, none⟩ (.int .i64 q)).drew w.heap.size #[.int .i64 E, .slice ax ms.length kx, .int .i64 L, .int .i64 q] 26 := ((((HST.out.r2.set (i := 0) (.int .i64 E)).set (i := 1) (.slice ax ms.length kx)).set (i := 2) (.int .i64 L)).set (i := 3) (.int .i64 q))
    have zV : Blk ((((W.setCell ⟨w.heap.size, 0, none⟩ (.int .i64 E)).setCell ⟨w.heap.size, 1, none⟩ (.slice ax ms.length kx)).setCell ⟨w.heap.size, 2, none⟩ (.int .i64 L)).setCell ⟨w.heap.size, 3, none⟩ (.int .i64 q)).drew (w.heap.size + 1) #[.slice none 0 0] 28 := HST.out.r3.kept g4 (by simp)
    have oxV : Own .i64 2 ((((W.setCell ⟨w.heap.size, 0, none⟩ (.int .i64 E)).setCell ⟨w.heap.size, 1, none⟩ (.slice ax ms.length kx)).setCell ⟨w.heap.size, 2, none⟩ (.int .i64 L)).setCell ⟨w.heap.size, 3, none⟩ (.int .i64 q)).drew (w.heap.size + 3) (.slice ax ms.length kx) ms.length ms := (Own.setBelow (a := ⟨w.heap.size, 3, none⟩) (Own.setBelow (a := ⟨w.heap.size, 2, none⟩) (Own.setBelow (a := ⟨w.heap.size, 1, none⟩) (Own.setBelow (a := ⟨w.heap.size, 0, none⟩) HST.out.ox (by simp) (.int .i64 E)) (by simp) (.slice ax ms.length kx)) (by simp) (.int .i64 L)) (by simp) (.int .i64 q))
    have ofV : Own .u8 5 ((((W.setCell ⟨w.heap.size, 0, none⟩ (.int .i64 E)).setCell ⟨w.heap.size, 1, none⟩ (.slice ax ms.length kx)).setCell ⟨w.heap.size, 2, none⟩ (.int .i64 L)).setCell ⟨w.heap.size, 3, none⟩ (.int .i64 q)).drew (w.heap.size + 3) (.slice af ys.length kf) ys.length ys := (Own.setBelow (a := ⟨w.heap.size, 3, none⟩) (Own.setBelow (a := ⟨w.heap.size, 2, none⟩) (Own.setBelow (a := ⟨w.heap.size, 1, none⟩) (Own.setBelow (a := ⟨w.heap.size, 0, none⟩) HST.out.of (by simp) (.int .i64 E)) (by simp) (.slice ax ms.length kx)) (by simp) (.int .i64 L)) (by simp) (.int .i64 q))
    have beV : Below w.heap.size w ((((W.setCell ⟨w.heap.size, 0, none⟩ (.int .i64 E)).setCell ⟨w.heap.size, 1, none⟩ (.slice ax ms.length kx)).setCell ⟨w.heap.size, 2, none⟩ (.int .i64 L)).setCell ⟨w.heap.size, 3, none⟩ (.int .i64 q)).drew := HST.out.bel.grown g4 HST.out.bel.size (fun j hj => by cases hj; exact Nat.le_refl _)
    clear g4 y0 y1 y2 y3 yf0 yf1 yf2 yf3 z0 zf0 x0 x1 x2 x3 f0 hS
    generalize ((((W.setCell ⟨w.heap.size, 0, none⟩ (.int .i64 E)).setCell ⟨w.heap.size, 1, none⟩ (.slice ax ms.length kx)).setCell ⟨w.heap.size, 2, none⟩ (.int .i64 L)).setCell ⟨w.heap.size, 3, none⟩ (.int .i64 q)).drew = V at *
    refine hK.out _ _ ⟨mx0, mx1, mx2, mx3, mf0⟩ (fun hS => ?_)
    clear hK K mx0 mx1 mx2 mx3 mf0
    have y0 : V.cell? ⟨w.heap.size, 0, none⟩ = some (.int .i64 E) := rV.cell 0
    have y1 : V.cell? ⟨w.heap.size, 1, none⟩ = some (.slice ax ms.length kx) := rV.cell 1
    have y2 : V.cell? ⟨w.heap.size, 2, none⟩ = some (.int .i64 L) := rV.cell 2
    have y3 : V.cell? ⟨w.heap.size, 3, none⟩ = some (.int .i64 q) := rV.cell 3
    have z0 : V.cell? ⟨w.heap.size + 1, 0, none⟩ = some (.slice none 0 0) := zV.cell 0
    have zf0 := zV.frozen 0
    have OX := hid oxV
    have OF := hid ofV
    clear rV zV oxV ofV
    refine wpAnyH_ready (rs := [3]) (by as_aux_lemma => kernel_rfl) (by simp) ?_
    refine AllReadyH.cons rfl (fun K hK => ?_) AllReadyH.nil
    go_simp
    have g5 := set_grown V (w.heap.size + 1) 0 (.slice af ys.length kf)
    refine hK.out _ _ ⟨grown_cell g5 hS.1 (fun j hj => by cases hj; exact n3), grown_cell g5 hS.2.1 (fun j hj => by cases hj; exact n3), grown_cell g5 hS.2.2.1 (fun j hj => by cases hj; exact n3), grown_cell g5 hS.2.2.2.1 (fun j hj => by cases hj; exact n3), grown_cell g5 hS.2.2.2.2 (fun j hj => by cases hj; exact n4)⟩ (fun hS => ?_)
    clear hK K g5
    refine wpAnyH_done (by kernel_rfl) ?_ _
    clear hS
    go_wp2
    refine bodyPost_ret (v := .tuple #[.agg #[.int .i64 E, .slice ax ms.length kx, .int .i64 L, .int .i64 q], .agg #[.slice af ys.length kf]]) (by simp [results, Try.results36, go_sem, y0, y1, y2, y3, z0]) rfl ⟨E, L, q, _, ms, _, ys, rfl, ?_, HST.out.l2, ?_, HST.out.l1, HST.out.by8, beV.setCell (by simp) _⟩
    · exact RowI.mono (RowI.of (Own.setBelow OX.out (by simp) _)) (by omega) (Nat.le_refl _)
    · exact RowI.mono (RowI.of (Own.setBelow OF.out (by simp) _)) (by omega) (Nat.le_refl _)
  by_cases c3 : r = 3
  · subst c3
    have z4 := hst4.src.lt
    go_wp2_with fail
    refine (l2Draw_any w.heap.size (w.heap.size + 2) _ _ hst4.src (by omega)).mono ?_
    rintro e w5 ⟨v5, zs, rfl, o5, hzl, hzb, hs5, hg5⟩
    have hst5 := hst4.kept hg5 hs5
    obtain ⟨a5, k5, rfl, -⟩ := o5.shape
    have u0 := hst5.bf.cell 0
    have uf0 := hst5.bf.frozen 0
    simp at u0
    have hst := hst5.file (.slice a5 zs.length k5) (Own.up o5.1 (by omega)) (by omega) hzb
    have HS := hid hst
    clear hst hst4 hst5 hg5 hs5 o5
    go_wp2
    have hst := HS.out
    clear HS
    generalize w5.setCell ⟨fb, 0, none⟩ (.slice a5 zs.length k5) = W at *
    generalize (Value.slice a5 zs.length k5) = vf at *
    obtain ⟨af, kf, rfl, -⟩ := hst.of.rdc
    obtain ⟨ax, kx, rfl, -⟩ := hst.ox.rdc
    have x0 : W.cell? ⟨xb, 0, none⟩ = some (.int .i64 E) := hst.bx.cell 0
    have x1 : W.cell? ⟨xb, 1, none⟩ = some (.slice ax ms.length kx) := hst.bx.cell 1
    have x2 : W.cell? ⟨xb, 2, none⟩ = some (.int .i64 L) := hst.bx.cell 2
    have x3 : W.cell? ⟨xb, 3, none⟩ = some (.int .i64 Z) := hst.bx.cell 3
    have f0 : W.cell? ⟨fb, 0, none⟩ = some (.slice af zs.length kf) := hst.bf.cell 0
    have y0 : W.cell? ⟨w.heap.size, 0, none⟩ = some (.int .i64 0) := hst.r2.cell 0
    have yf0 := hst.r2.frozen 0
    have y1 : W.cell? ⟨w.heap.size, 1, none⟩ = some (.slice none 0 0) := hst.r2.cell 1
    have yf1 := hst.r2.frozen 1
    have y2 : W.cell? ⟨w.heap.size, 2, none⟩ = some (.int .i64 0) := hst.r2.cell 2
    have yf2 := hst.r2.frozen 2
    have y3 : W.cell? ⟨w.heap.size, 3, none⟩ = some (.int .i64 0) := hst.r2.cell 3
    have yf3 := hst.r2.frozen 3
    have z0 : W.cell? ⟨w.heap.size + 1, 0, none⟩ = some (.slice none 0 0) := hst.r3.cell 0
    have zf0 := hst.r3.frozen 0
    have h1 := hst.hf
    have h2 := hst.hx
    have n1 : xb ≠ w.heap.size := by omega
    have n2 : fb ≠ w.heap.size := by omega
    have n3 : xb ≠ w.heap.size + 1 := by omega
    have n4 : fb ≠ w.heap.size + 1 := by omega
    have HST := hid hst
    clear hst
    refine wp_region_held_drew (S := fun w' => w'.cell? ⟨xb, 0, none⟩ = some (.int .i64 E) ∧ w'.cell? ⟨xb, 1, none⟩ = some (.slice ax ms.length kx) ∧ w'.cell? ⟨xb, 2, none⟩ = some (.int .i64 L) ∧ w'.cell? ⟨xb, 3, none⟩ = some (.int .i64 Z) ∧ w'.cell? ⟨fb, 0, none⟩ = some (.slice af zs.length kf)) (by kernel_rfl) (by exact ⟨x0, x1, x2, x3, f0⟩) (fun hS => ?_)
    refine wpAnyH_take (i := 0) (v := (.agg #[.int .i64 E, .slice ax ms.length kx, .int .i64 L, .int .i64 Z])) rfl (by as_aux_lemma => kernel_rfl) (by as_aux_lemma => kernel_rfl) (by as_aux_lemma => kernel_rfl) (fun _ _ _ h => h) (Or.inl ⟨by kernel_rfl, ?_⟩) hS ?_
    · intro w hSw; (try dsimp only at hSw); go_simp
    simp only [Act.put, List.getElem_toArray, List.getElem_cons_zero, List.getElem_cons_succ, List.setIfInBounds_toArray, List.set_cons_zero, List.set_cons_succ]
    refine wpAnyH_take (i := 1) (v := (.agg #[.slice af zs.length kf])) rfl (by as_aux_lemma => kernel_rfl) (by as_aux_lemma => kernel_rfl) (by as_aux_lemma => kernel_rfl) (fun _ _ _ h => h) (Or.inl ⟨by kernel_rfl, ?_⟩) hS ?_
    · intro w hSw; (try dsimp only at hSw); go_simp
    simp only [Act.put, List.getElem_toArray, List.getElem_cons_zero, List.getElem_cons_succ, List.setIfInBounds_toArray, List.set_cons_zero, List.set_cons_succ]
    refine wpAnyH_ready (rs := [2]) (by as_aux_lemma => kernel_rfl) (by simp) ?_
    refine AllReadyH.cons rfl (fun K hK => ?_) AllReadyH.nil
    go_simp
    have g4 : W.grownBy ((((W.setCell ⟨w.heap.size, 0, none⟩ (.int .i64 E)).setCell ⟨w.heap.size, 1, none⟩ (.slice ax ms.length kx)).setCell ⟨w.heap.size, 2, none⟩ (.int .i64 L)).setCell ⟨w.heap.size, 3, none⟩ (.int .i64 Z)).drew (some w.heap.size) := grownBy_trans (grownBy_trans (grownBy_trans (grownBy_trans (set_grown W w.heap.size 0 (.int .i64 E)) (set_grown _ w.heap.size 1 (.slice ax ms.length kx))) (set_grown _ w.heap.size 2 (.int .i64 L))) (set_grown _ w.heap.size 3 (.int .i64 Z))) ⟨rfl, rfl, rfl, Nat.le_refl _, fun _ _ _ => rfl⟩
    have mx0 := grown_cell g4 x0 (fun j hj => by cases hj; exact n1)
    have mx1 := grown_cell g4 x1 (fun j hj => by cases hj; exact n1)
    have mx2 := grown_cell g4 x2 (fun j hj => by cases hj; exact n1)
    have mx3 := grown_cell g4 x3 (fun j hj => by cases hj; exact n1)
    have mf0 := grown_cell g4 f0 (fun j hj => by cases hj; exact n2)
    have rV : Blk ((((W.setCell ⟨w.heap.size, 0, none⟩ (.int .i64 E)).setCell ⟨w.heap.size, 1, none⟩ (.slice ax ms.length kx)).setCell ⟨w.heap.size, 2, none⟩ (.int .i64 L)).setCell ⟨w.heap.size, 3, none⟩ (.int .i64 Z)).drew w.heap.size #[.int .i64 E, .slice ax ms.length kx, .int .i64 L, .int .i64 Z] 26 := ((((HST.out.r2.set (i := 0) (.int .i64 E)).set (i := 1) (.slice ax ms.length kx)).set (i := 2) (.int .i64 L)).set (i := 3) (.int .i64 Z))
    have zV : Blk ((((W.setCell ⟨w.heap.size, 0, none⟩ (.int .i64 E)).setCell ⟨w.heap.size, 1, none⟩ (.slice ax ms.length kx)).setCell ⟨w.heap.size, 2, none⟩ (.int .i64 L)).setCell ⟨w.heap.size, 3, none⟩ (.int .i64 Z)).drew (w.heap.size + 1) #[.slice none 0 0] 28 := HST.out.r3.kept g4 (by simp)
    have oxV : Own .i64 2 ((((W.setCell ⟨w.heap.size, 0, none⟩ (.int .i64 E)).setCell ⟨w.heap.size, 1, none⟩ (.slice ax ms.length kx)).setCell ⟨w.heap.size, 2, none⟩ (.int .i64 L)).setCell ⟨w.heap.size, 3, none⟩ (.int .i64 Z)).drew (w.heap.size + 3) (.slice ax ms.length kx) ms.length ms := (Own.setBelow (a := ⟨w.heap.size, 3, none⟩) (Own.setBelow (a := ⟨w.heap.size, 2, none⟩) (Own.setBelow (a := ⟨w.heap.size, 1, none⟩) (Own.setBelow (a := ⟨w.heap.size, 0, none⟩) HST.out.ox (by simp) (.int .i64 E)) (by simp) (.slice ax ms.length kx)) (by simp) (.int .i64 L)) (by simp) (.int .i64 Z))
    have ofV : Own .u8 5 ((((W.setCell ⟨w.heap.size, 0, none⟩ (.int .i64 E)).setCell ⟨w.heap.size, 1, none⟩ (.slice ax ms.length kx)).setCell ⟨w.heap.size, 2, none⟩ (.int .i64 L)).setCell ⟨w.heap.size, 3, none⟩ (.int .i64 Z)).drew (w.heap.size + 3) (.slice af zs.length kf) zs.length zs := (Own.setBelow (a := ⟨w.heap.size, 3, none⟩) (Own.setBelow (a := ⟨w.heap.size, 2, none⟩) (Own.setBelow (a := ⟨w.heap.size, 1, none⟩) (Own.setBelow (a := ⟨w.heap.size, 0, none⟩) HST.out.of (by simp) (.int .i64 E)) (by simp) (.slice ax ms.length kx)) (by simp) (.int .i64 L)) (by simp) (.int .i64 Z))
    have beV : Below w.heap.size w ((((W.setCell ⟨w.heap.size, 0, none⟩ (.int .i64 E)).setCell ⟨w.heap.size, 1, none⟩ (.slice ax ms.length kx)).setCell ⟨w.heap.size, 2, none⟩ (.int .i64 L)).setCell ⟨w.heap.size, 3, none⟩ (.int .i64 Z)).drew := HST.out.bel.grown g4 HST.out.bel.size (fun j hj => by cases hj; exact Nat.le_refl _)
    clear g4 y0 y1 y2 y3 yf0 yf1 yf2 yf3 z0 zf0 x0 x1 x2 x3 f0 hS
    generalize ((((W.setCell ⟨w.heap.size, 0, none⟩ (.int .i64 E)).setCell ⟨w.heap.size, 1, none⟩ (.slice ax ms.length kx)).setCell ⟨w.heap.size, 2, none⟩ (.int .i64 L)).setCell ⟨w.heap.size, 3, none⟩ (.int .i64 Z)).drew = V at *
    refine hK.out _ _ ⟨mx0, mx1, mx2, mx3, mf0⟩ (fun hS => ?_)
    clear hK K mx0 mx1 mx2 mx3 mf0
    have y0 : V.cell? ⟨w.heap.size, 0, none⟩ = some (.int .i64 E) := rV.cell 0
    have y1 : V.cell? ⟨w.heap.size, 1, none⟩ = some (.slice ax ms.length kx) := rV.cell 1
    have y2 : V.cell? ⟨w.heap.size, 2, none⟩ = some (.int .i64 L) := rV.cell 2
    have y3 : V.cell? ⟨w.heap.size, 3, none⟩ = some (.int .i64 Z) := rV.cell 3
    have z0 : V.cell? ⟨w.heap.size + 1, 0, none⟩ = some (.slice none 0 0) := zV.cell 0
    have zf0 := zV.frozen 0
    have OX := hid oxV
    have OF := hid ofV
    clear rV zV oxV ofV
    refine wpAnyH_ready (rs := [3]) (by as_aux_lemma => kernel_rfl) (by simp) ?_
    refine AllReadyH.cons rfl (fun K hK => ?_) AllReadyH.nil
    go_simp
    have g5 := set_grown V (w.heap.size + 1) 0 (.slice af zs.length kf)
    refine hK.out _ _ ⟨grown_cell g5 hS.1 (fun j hj => by cases hj; exact n3), grown_cell g5 hS.2.1 (fun j hj => by cases hj; exact n3), grown_cell g5 hS.2.2.1 (fun j hj => by cases hj; exact n3), grown_cell g5 hS.2.2.2.1 (fun j hj => by cases hj; exact n3), grown_cell g5 hS.2.2.2.2 (fun j hj => by cases hj; exact n4)⟩ (fun hS => ?_)
    clear hK K g5
    refine wpAnyH_done (by kernel_rfl) ?_ _
    clear hS
    go_wp2
    refine bodyPost_ret (v := .tuple #[.agg #[.int .i64 E, .slice ax ms.length kx, .int .i64 L, .int .i64 Z], .agg #[.slice af zs.length kf]]) (by simp [results, Try.results36, go_sem, y0, y1, y2, y3, z0]) rfl ⟨E, L, Z, _, ms, _, zs, rfl, ?_, HST.out.l2, ?_, HST.out.l1, HST.out.by8, beV.setCell (by simp) _⟩
    · exact RowI.mono (RowI.of (Own.setBelow OX.out (by simp) _)) (by omega) (Nat.le_refl _)
    · exact RowI.mono (RowI.of (Own.setBelow OF.out (by simp) _)) (by omega) (Nat.le_refl _)
  have hst := hst4
  clear hst4
  go_wp2
  generalize w4 = W at *
  obtain ⟨af, kf, rfl, -⟩ := hst.of.rdc
  obtain ⟨ax, kx, rfl, -⟩ := hst.ox.rdc
  have x0 : W.cell? ⟨xb, 0, none⟩ = some (.int .i64 E) := hst.bx.cell 0
  have x1 : W.cell? ⟨xb, 1, none⟩ = some (.slice ax ms.length kx) := hst.bx.cell 1
  have x2 : W.cell? ⟨xb, 2, none⟩ = some (.int .i64 L) := hst.bx.cell 2
  have x3 : W.cell? ⟨xb, 3, none⟩ = some (.int .i64 Z) := hst.bx.cell 3
  have f0 : W.cell? ⟨fb, 0, none⟩ = some (.slice af ys.length kf) := hst.bf.cell 0
  have y0 : W.cell? ⟨w.heap.size, 0, none⟩ = some (.int .i64 0) := hst.r2.cell 0
  have yf0 := hst.r2.frozen 0
  have y1 : W.cell? ⟨w.heap.size, 1, none⟩ = some (.slice none 0 0) := hst.r2.cell 1
  have yf1 := hst.r2.frozen 1
  have y2 : W.cell? ⟨w.heap.size, 2, none⟩ = some (.int .i64 0) := hst.r2.cell 2
  have yf2 := hst.r2.frozen 2
  have y3 : W.cell? ⟨w.heap.size, 3, none⟩ = some (.int .i64 0) := hst.r2.cell 3
  have yf3 := hst.r2.frozen 3
  have z0 : W.cell? ⟨w.heap.size + 1, 0, none⟩ = some (.slice none 0 0) := hst.r3.cell 0
  have zf0 := hst.r3.frozen 0
  have h1 := hst.hf
  have h2 := hst.hx
  have n1 : xb ≠ w.heap.size := by omega
  have n2 : fb ≠ w.heap.size := by omega
  have n3 : xb ≠ w.heap.size + 1 := by omega
  have n4 : fb ≠ w.heap.size + 1 := by omega
  have HST := hid hst
  clear hst
  refine wp_region_held_drew (S := fun w' => w'.cell? ⟨xb, 0, none⟩ = some (.int .i64 E) ∧ w'.cell? ⟨xb, 1, none⟩ = some (.slice ax ms.length kx) ∧ w'.cell? ⟨xb, 2, none⟩ = some (.int .i64 L) ∧ w'.cell? ⟨xb, 3, none⟩ = some (.int .i64 Z) ∧ w'.cell? ⟨fb, 0, none⟩ = some (.slice af ys.length kf)) (by kernel_rfl) (by exact ⟨x0, x1, x2, x3, f0⟩) (fun hS => ?_)
  refine wpAnyH_take (i := 0) (v := (.agg #[.int .i64 E, .slice ax ms.length kx, .int .i64 L, .int .i64 Z])) rfl (by as_aux_lemma => kernel_rfl) (by as_aux_lemma => kernel_rfl) (by as_aux_lemma => kernel_rfl) (fun _ _ _ h => h) (Or.inl ⟨by kernel_rfl, ?_⟩) hS ?_
  · intro w hSw; (try dsimp only at hSw); go_simp
  simp only [Act.put, List.getElem_toArray, List.getElem_cons_zero, List.getElem_cons_succ, List.setIfInBounds_toArray, List.set_cons_zero, List.set_cons_succ]
  refine wpAnyH_take (i := 1) (v := (.agg #[.slice af ys.length kf])) rfl (by as_aux_lemma => kernel_rfl) (by as_aux_lemma => kernel_rfl) (by as_aux_lemma => kernel_rfl) (fun _ _ _ h => h) (Or.inl ⟨by kernel_rfl, ?_⟩) hS ?_
  · intro w hSw; (try dsimp only at hSw); go_simp
  simp only [Act.put, List.getElem_toArray, List.getElem_cons_zero, List.getElem_cons_succ, List.setIfInBounds_toArray, List.set_cons_zero, List.set_cons_succ]
  refine wpAnyH_ready (rs := [2]) (by as_aux_lemma => kernel_rfl) (by simp) ?_
  refine AllReadyH.cons rfl (fun K hK => ?_) AllReadyH.nil
  go_simp
  have g4 : W.grownBy ((((W.setCell ⟨w.heap.size, 0, none⟩ (.int .i64 E)).setCell ⟨w.heap.size, 1, none⟩ (.slice ax ms.length kx)).setCell ⟨w.heap.size, 2, none⟩ (.int .i64 L)).setCell ⟨w.heap.size, 3, none⟩ (.int .i64 Z)).drew (some w.heap.size) := grownBy_trans (grownBy_trans (grownBy_trans (grownBy_trans (set_grown W w.heap.size 0 (.int .i64 E)) (set_grown _ w.heap.size 1 (.slice ax ms.length kx))) (set_grown _ w.heap.size 2 (.int .i64 L))) (set_grown _ w.heap.size 3 (.int .i64 Z))) ⟨rfl, rfl, rfl, Nat.le_refl _, fun _ _ _ => rfl⟩
  have mx0 := grown_cell g4 x0 (fun j hj => by cases hj; exact n1)
  have mx1 := grown_cell g4 x1 (fun j hj => by cases hj; exact n1)
  have mx2 := grown_cell g4 x2 (fun j hj => by cases hj; exact n1)
  have mx3 := grown_cell g4 x3 (fun j hj => by cases hj; exact n1)
  have mf0 := grown_cell g4 f0 (fun j hj => by cases hj; exact n2)
  have rV : Blk ((((W.setCell ⟨w.heap.size, 0, none⟩ (.int .i64 E)).setCell ⟨w.heap.size, 1, none⟩ (.slice ax ms.length kx)).setCell ⟨w.heap.size, 2, none⟩ (.int .i64 L)).setCell ⟨w.heap.size, 3, none⟩ (.int .i64 Z)).drew w.heap.size #[.int .i64 E, .slice ax ms.length kx, .int .i64 L, .int .i64 Z] 26 := ((((HST.out.r2.set (i := 0) (.int .i64 E)).set (i := 1) (.slice ax ms.length kx)).set (i := 2) (.int .i64 L)).set (i := 3) (.int .i64 Z))
  have zV : Blk ((((W.setCell ⟨w.heap.size, 0, none⟩ (.int .i64 E)).setCell ⟨w.heap.size, 1, none⟩ (.slice ax ms.length kx)).setCell ⟨w.heap.size, 2, none⟩ (.int .i64 L)).setCell ⟨w.heap.size, 3, none⟩ (.int .i64 Z)).drew (w.heap.size + 1) #[.slice none 0 0] 28 := HST.out.r3.kept g4 (by simp)
  have oxV : Own .i64 2 ((((W.setCell ⟨w.heap.size, 0, none⟩ (.int .i64 E)).setCell ⟨w.heap.size, 1, none⟩ (.slice ax ms.length kx)).setCell ⟨w.heap.size, 2, none⟩ (.int .i64 L)).setCell ⟨w.heap.size, 3, none⟩ (.int .i64 Z)).drew (w.heap.size + 3) (.slice ax ms.length kx) ms.length ms := (Own.setBelow (a := ⟨w.heap.size, 3, none⟩) (Own.setBelow (a := ⟨w.heap.size, 2, none⟩) (Own.setBelow (a := ⟨w.heap.size, 1, none⟩) (Own.setBelow (a := ⟨w.heap.size, 0, none⟩) HST.out.ox (by simp) (.int .i64 E)) (by simp) (.slice ax ms.length kx)) (by simp) (.int .i64 L)) (by simp) (.int .i64 Z))
  have ofV : Own .u8 5 ((((W.setCell ⟨w.heap.size, 0, none⟩ (.int .i64 E)).setCell ⟨w.heap.size, 1, none⟩ (.slice ax ms.length kx)).setCell ⟨w.heap.size, 2, none⟩ (.int .i64 L)).setCell ⟨w.heap.size, 3, none⟩ (.int .i64 Z)).drew (w.heap.size + 3) (.slice af ys.length kf) ys.length ys := (Own.setBelow (a := ⟨w.heap.size, 3, none⟩) (Own.setBelow (a := ⟨w.heap.size, 2, none⟩) (Own.setBelow (a := ⟨w.heap.size, 1, none⟩) (Own.setBelow (a := ⟨w.heap.size, 0, none⟩) HST.out.of (by simp) (.int .i64 E)) (by simp) (.slice ax ms.length kx)) (by simp) (.int .i64 L)) (by simp) (.int .i64 Z))
  have beV : Below w.heap.size w ((((W.setCell ⟨w.heap.size, 0, none⟩ (.int .i64 E)).setCell ⟨w.heap.size, 1, none⟩ (.slice ax ms.length kx)).setCell ⟨w.heap.size, 2, none⟩ (.int .i64 L)).setCell ⟨w.heap.size, 3, none⟩ (.int .i64 Z)).drew := HST.out.bel.grown g4 HST.out.bel.size (fun j hj => by cases hj; exact Nat.le_refl _)
  clear g4 y0 y1 y2 y3 yf0 yf1 yf2 yf3 z0 zf0 x0 x1 x2 x3 f0 hS
  generalize ((((W.setCell ⟨w.heap.size, 0, none⟩ (.int .i64 E)).setCell ⟨w.heap.size, 1, none⟩ (.slice ax ms.length kx)).setCell ⟨w.heap.size, 2, none⟩ (.int .i64 L)).setCell ⟨w.heap.size, 3, none⟩ (.int .i64 Z)).drew = V at *
  refine hK.out _ _ ⟨mx0, mx1, mx2, mx3, mf0⟩ (fun hS => ?_)
  clear hK K mx0 mx1 mx2 mx3 mf0
  have y0 : V.cell? ⟨w.heap.size, 0, none⟩ = some (.int .i64 E) := rV.cell 0
  have y1 : V.cell? ⟨w.heap.size, 1, none⟩ = some (.slice ax ms.length kx) := rV.cell 1
  have y2 : V.cell? ⟨w.heap.size, 2, none⟩ = some (.int .i64 L) := rV.cell 2
  have y3 : V.cell? ⟨w.heap.size, 3, none⟩ = some (.int .i64 Z) := rV.cell 3
  have z0 : V.cell? ⟨w.heap.size + 1, 0, none⟩ = some (.slice none 0 0) := zV.cell 0
  have zf0 := zV.frozen 0
  have OX := hid oxV
  have OF := hid ofV
  clear rV zV oxV ofV
  refine wpAnyH_ready (rs := [3]) (by as_aux_lemma => kernel_rfl) (by simp) ?_
  refine AllReadyH.cons rfl (fun K hK => ?_) AllReadyH.nil
  go_simp
  have g5 := set_grown V (w.heap.size + 1) 0 (.slice af ys.length kf)
  refine hK.out _ _ ⟨grown_cell g5 hS.1 (fun j hj => by cases hj; exact n3), grown_cell g5 hS.2.1 (fun j hj => by cases hj; exact n3), grown_cell g5 hS.2.2.1 (fun j hj => by cases hj; exact n3), grown_cell g5 hS.2.2.2.1 (fun j hj => by cases hj; exact n3), grown_cell g5 hS.2.2.2.2 (fun j hj => by cases hj; exact n4)⟩ (fun hS => ?_)
  clear hK K g5
  refine wpAnyH_done (by kernel_rfl) ?_ _
  clear hS
  go_wp2
  refine bodyPost_ret (v := .tuple #[.agg #[.int .i64 E, .slice ax ms.length kx, .int .i64 L, .int .i64 Z], .agg #[.slice af ys.length kf]]) (by simp [results, Try.results36, go_sem, y0, y1, y2, y3, z0]) rfl ⟨E, L, Z, _, ms, _, ys, rfl, ?_, HST.out.l2, ?_, HST.out.l1, HST.out.by8, beV.setCell (by simp) _⟩
  · exact RowI.mono (RowI.of (Own.setBelow OX.out (by simp) _)) (by omega) (Nat.le_refl _)
  · exact RowI.mono (RowI.of (Own.setBelow OF.out (by simp) _)) (by omega) (Nat.le_refl _)
end Go.Proofs.Ythdglflipeggpaa
