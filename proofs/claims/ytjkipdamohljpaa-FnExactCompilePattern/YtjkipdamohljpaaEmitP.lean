/-
  Emit3, Emit4, Emit5, Emit6, Emit7 in one text.
-/
import Derived.Deep.RegionHeld3
import Derived.Deep.DeepAppendRoom
import Derived.Test.YtjkipdamohljpaaEmitM
import Derived.Test.YtjkipdamohljpaaBox
import Derived.Test.YtjkipdamohljpaaEmit1
import Derived.Test.YtjkipdamohljpaaJoin
import Derived.Test.YtjkipdamohljpaaEmit2
import Derived.Test.YtjkipdamohljpaaNode6d
namespace Go.Proofs.Ytjkipdamohljpaa
open Go.RowKit
set_option linter.unusedVariables false
set_option linter.unusedSimpArgs false

/-- A writer in its box, with the program that it has. -/
structure Wr (w0 : World) (B : Nat) (NV : Value) (w : World) (v : Value) (out : List In) : Prop where
  blk : Blk w B #[NV, v] 100
  own : OwnR inE 8 91 w (B + 1) v out.length out
  below : Below w0.heap.size w0 w
  base : w0.heap.size ≤ B

theorem Wr.later {w0 : World} {B : Nat} {NV : Value} {w w' : World} {v : Value} {out : List In} (h : Wr w0 B NV w v out) (hb : Below w.heap.size w w') : Wr w0 B NV w' v out :=
  ⟨(hb.block B h.blk.lt).trans h.blk, h.own.below hb, h.below.trans (hb.mono h.below.size), h.base⟩

/-- Whatever lies neither in the writer's box nor in its row is kept, and the row stays away from it. -/
def Kw (B : Nat) (v : Value) (w : World) (v' : Value) (w' : World) : Prop :=
  w.heap.size ≤ w'.heap.size ∧ ∀ b, b < w.heap.size → b ≠ B → v.ownBlock ≠ some b → w'.heap[b]? = w.heap[b]? ∧ v'.ownBlock ≠ some b
theorem Kw.trans {B : Nat} {v v1 v2 : Value} {w w1 w2 : World} (h : Kw B v w v1 w1) (k : Kw B v1 w1 v2 w2) : Kw B v w v2 w2 :=
  ⟨Nat.le_trans h.1 k.1, fun b hb hB hv => by
    have h1 := h.2 b hb hB hv
    have h2 := k.2 b (Nat.lt_of_lt_of_le hb h.1) hB h1.2
    exact ⟨h2.1.trans h1.1, h2.2⟩⟩
theorem Kw.of_below {w w' : World} (hb : Below w.heap.size w w') (B : Nat) (v : Value) : Kw B v w v w' := ⟨hb.size, fun b h _ hv => ⟨hb.block b h, hv⟩⟩
theorem Kw.setB (w : World) (B : Nat) (v : Value) (i : Nat) (u : Value) : Kw B v w v (w.setCell ⟨B, i, none⟩ u) :=
  ⟨by simp, fun b _ hB hv => ⟨Below.heap_setCell w ⟨B, i, none⟩ u b hB, hv⟩⟩
theorem Kw.grown {w w' : World} {v v' : Value} (B : Nat) (hg : w.grownBy w' v.ownBlock) (hn : v'.ownBlock = v.ownBlock ∨ ∀ j, v'.ownBlock = some j → w.heap.size ≤ j) : Kw B v w v' w' :=
  ⟨hg.size, fun b hb _ hv => ⟨hg.block b hb (fun e => hv e.symm), fun e => by
    rcases hn with q | q
    · exact hv (q ▸ e)
    · have := q b e; omega⟩⟩
theorem Kw.row (w : World) (B g n vc i : Nat) (u : Value) : Kw B (.slice (some ⟨g, 0, none⟩) n vc) w (.slice (some ⟨g, 0, none⟩) n vc) (w.setCell ⟨g, i, none⟩ u) :=
  ⟨by simp, fun b _ _ hv => ⟨Below.heap_setCell w ⟨g, i, none⟩ u b (fun e => hv (by rw [e]; rfl)), hv⟩⟩
theorem Kw.blk {B : Nat} {v v' : Value} {w w' : World} {b : Nat} {cs : Array Value} {t : TypeId} (h : Kw B v w v' w') (hb : Blk w b cs t ∧ v.ownBlock ≠ some b) (hB : b ≠ B) : Blk w' b cs t ∧ v'.ownBlock ≠ some b := by
  have q := h.2 b hb.1.lt hB hb.2
  exact ⟨q.1.trans hb.1, q.2⟩
theorem Wr.new {w0 : World} {B : Nat} {NV : Value} {w : World} {v : Value} {out : List In} (h : Wr w0 B NV w v out) : v.ownBlock ≠ some w.heap.size := fun e => by
  have := (h.own.lt _ e).2
  omega

/-- An instruction is put behind a row: where the row lies behind it. -/
theorem wp_appIn2 {w : World} {o : Oper} {a : Act} {K : Act → World → Prop} {Q : Exit → Act → World → Prop} (s x : Operand)
    (ho : o.op = .call { callee := .builtin .append, args := #[s, x], argTypes := #[24, 24] }) (base : Nat) (v : Value) (n : Nat) (xs : List In) (hs : a.eval s = v) (hown : OwnR inE 8 91 w base v n xs)
    (b c : Nat) (i : In) (hx : a.eval x = .slice (some ⟨b, 0, none⟩) 1 c) (hc : ∀ f u, (inE i)[f]? = some u → w.cell? ⟨b, f, none⟩ = some u) (hn : n ≤ 1000000) (hbase : base ≤ w.heap.size)
    (h : ∀ v' w', OwnR inE 8 91 w' base v' (n + 1) (xs ++ [i]) → w.grownBy w' v.ownBlock → (v'.ownBlock = v.ownBlock ∨ ∀ j, v'.ownBlock = some j → w.heap.size ≤ j) → K (a.put o.dst v') w') : o.wp Try.prog a w K Q := by
  obtain ⟨i0, hi, hz0, hz1, hz2⟩ := info_parts infoInE
  have hcs : ∀ j u, (inE i)[j]? = some u → w.cell? ((⟨b, 0, none⟩ : Addr).add j) = some u := fun j u hu => by rw [Addr.add_lit, Nat.zero_add]; exact hc j u hu
  have key : ∃ v' w', (Builtin.append_ #[24, 24] o.type #[v, .slice (some ⟨b, 0, none⟩) 1 c]).run Try.prog w = .ok v' w' ∧ OwnR inE 8 91 w' base v' (n + 1) (xs ++ [i]) ∧ w.grownBy w' v.ownBlock ∧ (v'.ownBlock = v.ownBlock ∨ ∀ j, v'.ownBlock = some j → w.heap.size ≤ j) := by
    have mk : ∀ {w' : World} {base' : Nat} {v' : Value}, w'.ownsRow base' 91 8 v' (n + 1) (xs.flatMap inE ++ inE i) → OwnR inE 8 91 w' base' v' (n + 1) (xs ++ [i]) := fun h1 => by
      rw [← inE_snoc] at h1
      exact ⟨by rw [List.length_append, hown.1]; rfl, h1⟩
    rcases hown.2.2 with ⟨rfl, rfl⟩ | ⟨g, cap, cur, rfl, hbg, hg, hnc, hcm, hcs', htake⟩
    · have hx0 : xs = [] := List.eq_nil_of_length_eq_zero hown.1
      subst hx0
      obtain ⟨v', w', h1, h2, h3, -⟩ := run_append_own (P := Try.prog) w w.heap.size 24 o.type 91 i0 _ 8 72 Try.underlying24 hi hz0 hz1 hz2 rfl (by decide) (.slice none 0 0) 0 [] (World.ownsRow_nil _ _ _ _) ⟨b, 0, none⟩ 1 c (inE i) rfl hcs (inE_one i) (by unfold maxLen; omega) (by omega) (Nat.le_refl _)
      have h2' := mk h2
      exact ⟨v', w', h1, h2'.up hbase, h3, .inr fun j hj => (h2'.lt j hj).1⟩
    · by_cases hroom : n + 1 ≤ cap
      · obtain ⟨w', h1, h2, h3⟩ := run_append_own_spare (P := Try.prog) w base 24 o.type 91 i0 8 Try.underlying24 hi hz1 g n cap (xs.flatMap inE) hown.2 ⟨b, 0, none⟩ 1 c (inE i) rfl hcs (inE_one i) hroom
        exact ⟨_, w', h1, mk h2, h3, .inl rfl⟩
      · obtain ⟨v', w', h1, h2, h3, -⟩ := run_append_own (P := Try.prog) w base 24 o.type 91 i0 _ 8 72 Try.underlying24 hi hz0 hz1 hz2 rfl (by decide) _ n (xs.flatMap inE) hown.2 ⟨b, 0, none⟩ 1 c (inE i) rfl hcs (inE_one i) (by unfold maxLen; omega) (by omega) hbase
        have holds : ∀ j u, (xs.flatMap inE)[j]? = some u → w.cell? ((⟨g, 0, none⟩ : Addr).add j) = some u := World.ownsRow.cells (g := g) hown.2 rfl
        have h4 := run_append_grow (P := Try.prog) w 24 o.type 91 i0 _ Try.underlying24 hi hz0 ⟨g, 0, none⟩ n cap (xs.flatMap inE) (by rw [hz1]; exact hown.2.1) holds ⟨b, 0, none⟩ 1 c (inE i) (by rw [hz1]; rfl) hcs (by omega) (by omega) (growslice_fits (by omega) (by rw [hz2]; omega))
        rw [h1] at h4
        cases h4
        exact ⟨_, _, h1, mk h2, h3, .inr fun j hj => by simp [Value.ownBlock] at hj; omega⟩
  obtain ⟨v', w', hrun, h2, h3, h4⟩ := key
  unfold Oper.wp execOp
  simp only [ho, resolve, invoke, builtin, Sem.run_bind, Sem.run_pure, Result.andThen_ok, List.map_toArray, List.map_cons, List.map_nil, hs, hx, hrun]
  exact h v' w' h2 h3 h4

/-- Nothing is put behind a row. -/
theorem wp_appNil {w : World} {o : Oper} {a : Act} {K : Act → World → Prop} {Q : Exit → Act → World → Prop} (s x : Operand)
    (ho : o.op = .call { callee := .builtin .append, args := #[s, x], argTypes := #[24, 24] }) (base : Nat) (v : Value) (n : Nat) (xs : List In) (hs : a.eval s = v) (hown : OwnR inE 8 91 w base v n xs)
    (c : Nat) (hx : a.eval x = .slice none 0 c) (h : K (a.put o.dst v) w) : o.wp Try.prog a w K Q := by
  obtain ⟨i0, hi, hz0, hz1, hz2⟩ := info_parts infoInE
  have hrun : (Builtin.append_ #[24, 24] o.type #[v, .slice none 0 c]).run Try.prog w = .ok v w := by
    rcases hown.2.2 with ⟨rfl, rfl⟩ | ⟨g, cap, cur, rfl, _, _, hnc, _⟩
    · simp [Builtin.append_, run_underlying Try.underlying24, sizeOf, typeInfo, hi, Builtin.lenOf, Builtin.firstCells]
    · simp [Builtin.append_, run_underlying Try.underlying24, sizeOf, typeInfo, hi, Builtin.lenOf, Builtin.firstCells, hnc, storeCells]
  unfold Oper.wp
  simp [execOp, ho, resolve, invoke, builtin, hs, hx, hrun, Result.andThen]
  exact h

set_option maxRecDepth 20000 in
theorem next_any (w0 : World) (B : Nat) (NV : Value) (w : World) (v : Value) (out : List In) (h : Wr w0 B NV w v out) (hl : out.length ≤ 100000) :
    Calls Try.prog 99 #[.pointer (some ⟨B, 0, none⟩)] w fun r w' => r = .returned (.int .i64 (out.length : Int)) ∧ w' = w := by
  obtain ⟨va, vc, rfl, -, -, -⟩ := h.own.rd inE_len
  have c1 := h.blk.cell 1
  simp only [List.getElem?_toArray, List.getElem?_cons_zero, List.getElem?_cons_succ] at c1
  clear h
  go_enter Try.func99, Try.ntmps99
  go_wp2
  go_ret
  exact ⟨rfl, rfl⟩

set_option maxHeartbeats 3200000 in
set_option maxRecDepth 20000 in
theorem put_any (w0 : World) (B : Nat) (NV : Value) (i : In) (w : World) (v : Value) (out : List In) (h : Wr w0 B NV w v out) (hl : out.length ≤ 100000) :
    Calls Try.prog 69 #[.pointer (some ⟨B, 0, none⟩), .agg #[.int .i64 i.o, .int .i64 i.k, .int .i64 i.c, .string i.s, .int .i64 i.l, .int .i64 i.r, .int .i64 i.x, .int .i64 i.y]] w fun r w' => r = .returned (.int .i64 (out.length : Int)) ∧ ∃ v', Kw B v w v' w' ∧ Wr w0 B NV w' v' (out ++ [i]) := by
  obtain ⟨o, k, c, s, l, r, x, y⟩ := i
  simp only
  obtain ⟨va, vc, rfl, -, -, -⟩ := h.own.rd inE_len
  have hBlt := h.blk.lt
  have hown := h.own.lt
  have HNB : Hid (∀ j, (Value.slice va out.length vc).ownBlock = some j → j < w.heap.size) := fun j hj => (hown j hj).2
  have h1 := h.later ((Below.refl w.heap.size w).alloc (Nat.le_refl _) (.cells #[.int .i64 o, .int .i64 k, .int .i64 c, .string s, .int .i64 l, .int .i64 r, .int .i64 x, .int .i64 y] 91))
  have HX : Hid _ := fun w' h' => next_any w0 B NV w' (.slice va out.length vc) out h' hl
  have H1 : Hid _ := h1
  clear h h1 hown
  go_enter Try.func69, Try.ntmps69
  go_wp2_with fail
  refine (HX.out _ H1.out).mono ?_
  rintro r1 w1 ⟨rfl, hw1⟩
  have hw2 := hw1.symm
  subst hw2
  clear hw1
  go_wp2
  obtain ⟨bI, hbI⟩ : ∃ b, w.heap.size = b := ⟨_, rfl⟩
  obtain ⟨W1, hW1⟩ : ∃ W, w.alloc (.cells #[.int .i64 o, .int .i64 k, .int .i64 c, .string s, .int .i64 l, .int .i64 r, .int .i64 x, .int .i64 y] 91) = W := ⟨_, rfl⟩
  have hz1 : W1.heap.size = bI + 1 := by rw [← hW1, ← hbI]; simp
  have hcs : W1.cell? ⟨bI, 0, none⟩ = some (.int .i64 o) ∧ W1.cell? ⟨bI, 1, none⟩ = some (.int .i64 k) ∧ W1.cell? ⟨bI, 2, none⟩ = some (.int .i64 c) ∧ W1.cell? ⟨bI, 3, none⟩ = some (.string s) ∧ W1.cell? ⟨bI, 4, none⟩ = some (.int .i64 l) ∧ W1.cell? ⟨bI, 5, none⟩ = some (.int .i64 r) ∧ W1.cell? ⟨bI, 6, none⟩ = some (.int .i64 x) ∧ W1.cell? ⟨bI, 7, none⟩ = some (.int .i64 y) := by rw [← hW1, ← hbI]; refine ⟨?_, ?_, ?_, ?_, ?_, ?_, ?_, ?_⟩ <;> simp [go_sem]
  rw [hW1] at H1 ⊢
  rw [hbI] at HNB hBlt ⊢
  have HOW : Hid (OwnR inE 8 91 W1.drew (B + 1) (.slice va out.length vc) out.length out) := H1.out.own
  have HBW : Hid (Blk W1.drew B #[NV, .slice va out.length vc] 100) := H1.out.blk
  have HWB : Hid _ := H1.out.below
  have HBS : Hid _ := H1.out.base
  have c1 : W1.cell? ⟨B, 1, none⟩ = some (.slice va out.length vc) := by have := H1.out.blk.cell 1; simpa using this
  have c1' : W1.drew.cell? ⟨B, 1, none⟩ = some (.slice va out.length vc) := c1
  have hbs := H1.out.base
  have HK0 : Hid (Kw B (.slice va out.length vc) w (.slice va out.length vc) W1) := by rw [← hW1]; exact Kw.of_below ((Below.refl _ _).alloc (Nat.le_refl _) _) _ _
  have HCI : Hid (∀ f u, (inE (⟨o, k, c, s, l, r, x, y⟩ : In))[f]? = some u → (W1.alloc (.cells #[.int .i64 o, .int .i64 k, .int .i64 c, .string s, .int .i64 l, .int .i64 r, .int .i64 x, .int .i64 y] 91)).drew.cell? ⟨bI + 1, f, none⟩ = some u) := by
    rw [← hz1]
    exact cellsI W1 (⟨o, k, c, s, l, r, x, y⟩ : In) 91
  have hba : Below W1.heap.size W1 (W1.alloc (.cells #[.int .i64 o, .int .i64 k, .int .i64 c, .string s, .int .i64 l, .int .i64 r, .int .i64 x, .int .i64 y] 91)).drew := ((Below.refl _ _).alloc (Nat.le_refl _) _).drew
  have HOA : Hid (OwnR inE 8 91 (W1.alloc (.cells #[.int .i64 o, .int .i64 k, .int .i64 c, .string s, .int .i64 l, .int .i64 r, .int .i64 x, .int .i64 y] 91)).drew (B + 1) (.slice va out.length vc) out.length out) := H1.out.own.below hba
  have HBA : Hid (Blk (W1.alloc (.cells #[.int .i64 o, .int .i64 k, .int .i64 c, .string s, .int .i64 l, .int .i64 r, .int .i64 x, .int .i64 y] 91)).drew B #[NV, .slice va out.length vc] 100) := (H1.out.later hba).blk
  have HWA : Hid (Below w0.heap.size w0 (W1.alloc (.cells #[.int .i64 o, .int .i64 k, .int .i64 c, .string s, .int .i64 l, .int .i64 r, .int .i64 x, .int .i64 y] 91)).drew) := (H1.out.later hba).below
  have HBE : Hid _ := hba
  have HSA : Hid ((W1.alloc (.cells #[.int .i64 o, .int .i64 k, .int .i64 c, .string s, .int .i64 l, .int .i64 r, .int .i64 x, .int .i64 y] 91)).drew.cell? ⟨bI, 0, none⟩ = some (.int .i64 o) ∧ (W1.alloc (.cells #[.int .i64 o, .int .i64 k, .int .i64 c, .string s, .int .i64 l, .int .i64 r, .int .i64 x, .int .i64 y] 91)).drew.cell? ⟨bI, 1, none⟩ = some (.int .i64 k) ∧ (W1.alloc (.cells #[.int .i64 o, .int .i64 k, .int .i64 c, .string s, .int .i64 l, .int .i64 r, .int .i64 x, .int .i64 y] 91)).drew.cell? ⟨bI, 2, none⟩ = some (.int .i64 c) ∧ (W1.alloc (.cells #[.int .i64 o, .int .i64 k, .int .i64 c, .string s, .int .i64 l, .int .i64 r, .int .i64 x, .int .i64 y] 91)).drew.cell? ⟨bI, 3, none⟩ = some (.string s) ∧ (W1.alloc (.cells #[.int .i64 o, .int .i64 k, .int .i64 c, .string s, .int .i64 l, .int .i64 r, .int .i64 x, .int .i64 y] 91)).drew.cell? ⟨bI, 4, none⟩ = some (.int .i64 l) ∧ (W1.alloc (.cells #[.int .i64 o, .int .i64 k, .int .i64 c, .string s, .int .i64 l, .int .i64 r, .int .i64 x, .int .i64 y] 91)).drew.cell? ⟨bI, 5, none⟩ = some (.int .i64 r) ∧ (W1.alloc (.cells #[.int .i64 o, .int .i64 k, .int .i64 c, .string s, .int .i64 l, .int .i64 r, .int .i64 x, .int .i64 y] 91)).drew.cell? ⟨bI, 6, none⟩ = some (.int .i64 x) ∧ (W1.alloc (.cells #[.int .i64 o, .int .i64 k, .int .i64 c, .string s, .int .i64 l, .int .i64 r, .int .i64 x, .int .i64 y] 91)).drew.cell? ⟨bI, 7, none⟩ = some (.int .i64 y)) := ⟨cell_later hba hcs.1, cell_later hba hcs.2.1, cell_later hba hcs.2.2.1, cell_later hba hcs.2.2.2.1, cell_later hba hcs.2.2.2.2.1, cell_later hba hcs.2.2.2.2.2.1, cell_later hba hcs.2.2.2.2.2.2.1, cell_later hba hcs.2.2.2.2.2.2.2⟩
  clear hW1 H1 HX hbI hba
  refine wp_region_held_drew (S := fun w' => w'.cell? ⟨bI, 0, none⟩ = some (.int .i64 o) ∧ w'.cell? ⟨bI, 1, none⟩ = some (.int .i64 k) ∧ w'.cell? ⟨bI, 2, none⟩ = some (.int .i64 c) ∧ w'.cell? ⟨bI, 3, none⟩ = some (.string s) ∧ w'.cell? ⟨bI, 4, none⟩ = some (.int .i64 l) ∧ w'.cell? ⟨bI, 5, none⟩ = some (.int .i64 r) ∧ w'.cell? ⟨bI, 6, none⟩ = some (.int .i64 x) ∧ w'.cell? ⟨bI, 7, none⟩ = some (.int .i64 y)) (by kernel_rfl) (by exact hcs) (fun hS => ?_)
  refine wpAnyH_take (i := 0) (v := (.pointer (some ⟨B, 0, none⟩))) rfl (by as_aux_lemma => kernel_rfl) (by as_aux_lemma => kernel_rfl) (by as_aux_lemma => kernel_rfl) (fun _ _ _ h => h) (Or.inl ⟨by kernel_rfl, ?_⟩) hS ?_
  · intro w hSw; (try dsimp only at hSw); go_simp
  simp only [Act.put, List.getElem_toArray, List.getElem_cons_zero, List.getElem_cons_succ, List.setIfInBounds_toArray, List.set_cons_zero, List.set_cons_succ]
  refine wpAnyH_take (i := 1) (v := (.pointer (some ⟨B, 0, none⟩))) rfl (by as_aux_lemma => kernel_rfl) (by as_aux_lemma => kernel_rfl) (by as_aux_lemma => kernel_rfl) (fun _ _ _ h => h) (Or.inl ⟨by kernel_rfl, ?_⟩) hS ?_
  · intro w hSw; (try dsimp only at hSw); go_simp
  simp only [Act.put, List.getElem_toArray, List.getElem_cons_zero, List.getElem_cons_succ, List.setIfInBounds_toArray, List.set_cons_zero, List.set_cons_succ]
  refine wpAnyH_take (i := 2) (v := (.pointer (some ⟨B, 0, none⟩))) rfl (by as_aux_lemma => kernel_rfl) (by as_aux_lemma => kernel_rfl) (by as_aux_lemma => kernel_rfl) (fun _ _ _ h => h) (Or.inl ⟨by kernel_rfl, ?_⟩) hS ?_
  · intro w hSw; (try dsimp only at hSw); go_simp
  simp only [Act.put, List.getElem_toArray, List.getElem_cons_zero, List.getElem_cons_succ, List.setIfInBounds_toArray, List.set_cons_zero, List.set_cons_succ]
  refine wpAnyH_take (i := 3) (v := (.pointer (some ⟨B, 1, none⟩))) rfl (by as_aux_lemma => kernel_rfl) (by as_aux_lemma => kernel_rfl) (by as_aux_lemma => kernel_rfl) (fun _ _ _ h => h) (Or.inl ⟨by kernel_rfl, ?_⟩) hS ?_
  · intro w hSw; (try dsimp only at hSw); go_simp
  simp only [Act.put, List.getElem_toArray, List.getElem_cons_zero, List.getElem_cons_succ, List.setIfInBounds_toArray, List.set_cons_zero, List.set_cons_succ]
  refine wpAnyH_take (i := 5) (v := (.agg #[.int .i64 o, .int .i64 k, .int .i64 c, .string s, .int .i64 l, .int .i64 r, .int .i64 x, .int .i64 y])) rfl (by as_aux_lemma => kernel_rfl) (by as_aux_lemma => kernel_rfl) (by as_aux_lemma => kernel_rfl) (fun _ _ _ h => h) (Or.inl ⟨by kernel_rfl, ?_⟩) hS ?_
  · intro w hSw; (try dsimp only at hSw); go_simp
  simp only [Act.put, List.getElem_toArray, List.getElem_cons_zero, List.getElem_cons_succ, List.setIfInBounds_toArray, List.set_cons_zero, List.set_cons_succ]
  refine wpAnyH_ready (rs := [4, 6]) (by as_aux_lemma => kernel_rfl) (by simp) ?_
  refine AllReadyH.cons rfl (fun K hK => ?_) (AllReadyH.cons rfl (fun K hK => ?_) AllReadyH.nil)
  · skip
    go_simp
    refine hK.out _ _ hS (fun hS => ?_)
    clear hK K
    (try simp only [Act.put, List.getElem_toArray, List.getElem_cons_zero, List.getElem_cons_succ, List.setIfInBounds_toArray, List.set_cons_zero, List.set_cons_succ])
    refine wpAnyH_ready (rs := [6]) (by as_aux_lemma => kernel_rfl) (by simp) ?_
    refine AllReadyH.cons rfl (fun K hK => ?_) AllReadyH.nil
    go_simp
    refine hK.out _ _ ⟨cell_later ((Below.refl _ _).alloc (Nat.le_refl _) (.cells #[.int .i64 o, .int .i64 k, .int .i64 c, .string s, .int .i64 l, .int .i64 r, .int .i64 x, .int .i64 y] 91)) hS.1, cell_later ((Below.refl _ _).alloc (Nat.le_refl _) (.cells #[.int .i64 o, .int .i64 k, .int .i64 c, .string s, .int .i64 l, .int .i64 r, .int .i64 x, .int .i64 y] 91)) hS.2.1, cell_later ((Below.refl _ _).alloc (Nat.le_refl _) (.cells #[.int .i64 o, .int .i64 k, .int .i64 c, .string s, .int .i64 l, .int .i64 r, .int .i64 x, .int .i64 y] 91)) hS.2.2.1, cell_later ((Below.refl _ _).alloc (Nat.le_refl _) (.cells #[.int .i64 o, .int .i64 k, .int .i64 c, .string s, .int .i64 l, .int .i64 r, .int .i64 x, .int .i64 y] 91)) hS.2.2.2.1, cell_later ((Below.refl _ _).alloc (Nat.le_refl _) (.cells #[.int .i64 o, .int .i64 k, .int .i64 c, .string s, .int .i64 l, .int .i64 r, .int .i64 x, .int .i64 y] 91)) hS.2.2.2.2.1, cell_later ((Below.refl _ _).alloc (Nat.le_refl _) (.cells #[.int .i64 o, .int .i64 k, .int .i64 c, .string s, .int .i64 l, .int .i64 r, .int .i64 x, .int .i64 y] 91)) hS.2.2.2.2.2.1, cell_later ((Below.refl _ _).alloc (Nat.le_refl _) (.cells #[.int .i64 o, .int .i64 k, .int .i64 c, .string s, .int .i64 l, .int .i64 r, .int .i64 x, .int .i64 y] 91)) hS.2.2.2.2.2.2.1, cell_later ((Below.refl _ _).alloc (Nat.le_refl _) (.cells #[.int .i64 o, .int .i64 k, .int .i64 c, .string s, .int .i64 l, .int .i64 r, .int .i64 x, .int .i64 y] 91)) hS.2.2.2.2.2.2.2⟩ (fun hS => ?_)
    clear hK K
    (try simp only [Act.put, List.getElem_toArray, List.getElem_cons_zero, List.getElem_cons_succ, List.setIfInBounds_toArray, List.set_cons_zero, List.set_cons_succ])
    refine wpAnyH_ready (rs := [7]) (by as_aux_lemma => kernel_rfl) (by simp) ?_
    refine AllReadyH.cons rfl (fun K hK => ?_) AllReadyH.nil
    refine wp_appIn2 _ _ rfl (B + 1) _ out.length out rfl HOA.out _ _ (⟨o, k, c, s, l, r, x, y⟩ : In) rfl HCI.out (show out.length ≤ 1000000 by omega) (by simp; omega) ?_
    intro v5 w5 ho5 hg5 hn5
    obtain ⟨va5, vc5, hv5, -, -, -⟩ := ho5.rd inE_len
    subst hv5
    have hne : ∀ j, (Value.slice va out.length vc).ownBlock = some j → B + 1 ≤ j ∧ j < bI := fun j hj => ⟨(HOA.out.lt j hj).1, HNB.out j hj⟩
    have hB5 : Blk w5 B #[NV, .slice va out.length vc] 100 := HBA.out.kept hg5 (fun e => by have := hne B e.symm; omega)
    have hb5 : Below w0.heap.size w0 w5 := HWA.out.grown hg5 (by simp; omega) (fun j hj => by have := hne j hj; omega)
    have hS5 : w5.cell? ⟨bI, 0, none⟩ = some (.int .i64 o) ∧ w5.cell? ⟨bI, 1, none⟩ = some (.int .i64 k) ∧ w5.cell? ⟨bI, 2, none⟩ = some (.int .i64 c) ∧ w5.cell? ⟨bI, 3, none⟩ = some (.string s) ∧ w5.cell? ⟨bI, 4, none⟩ = some (.int .i64 l) ∧ w5.cell? ⟨bI, 5, none⟩ = some (.int .i64 r) ∧ w5.cell? ⟨bI, 6, none⟩ = some (.int .i64 x) ∧ w5.cell? ⟨bI, 7, none⟩ = some (.int .i64 y) := ⟨grown_cell hg5 HSA.out.1 (fun j hj e => by have q := hne j hj; simp only at e; omega), grown_cell hg5 HSA.out.2.1 (fun j hj e => by have q := hne j hj; simp only at e; omega), grown_cell hg5 HSA.out.2.2.1 (fun j hj e => by have q := hne j hj; simp only at e; omega), grown_cell hg5 HSA.out.2.2.2.1 (fun j hj e => by have q := hne j hj; simp only at e; omega), grown_cell hg5 HSA.out.2.2.2.2.1 (fun j hj e => by have q := hne j hj; simp only at e; omega), grown_cell hg5 HSA.out.2.2.2.2.2.1 (fun j hj e => by have q := hne j hj; simp only at e; omega), grown_cell hg5 HSA.out.2.2.2.2.2.2.1 (fun j hj e => by have q := hne j hj; simp only at e; omega), grown_cell hg5 HSA.out.2.2.2.2.2.2.2 (fun j hj e => by have q := hne j hj; simp only at e; omega)⟩
    refine hK.out _ _ hS5 (fun hS => ?_)
    clear hK K
    (try simp only [Act.put, List.getElem_toArray, List.getElem_cons_zero, List.getElem_cons_succ, List.setIfInBounds_toArray, List.set_cons_zero, List.set_cons_succ])
    refine wpAnyH_take (i := 8) (v := (.pointer (some ⟨B, 0, none⟩))) rfl (by as_aux_lemma => kernel_rfl) (by as_aux_lemma => kernel_rfl) (by as_aux_lemma => kernel_rfl) (fun _ _ _ h => h) (Or.inl ⟨by kernel_rfl, ?_⟩) hS ?_
    · intro w hSw; (try dsimp only at hSw); go_simp
    simp only [Act.put, List.getElem_toArray, List.getElem_cons_zero, List.getElem_cons_succ, List.setIfInBounds_toArray, List.set_cons_zero, List.set_cons_succ]
    refine wpAnyH_take (i := 9) (v := (.pointer (some ⟨B, 1, none⟩))) rfl (by as_aux_lemma => kernel_rfl) (by as_aux_lemma => kernel_rfl) (by as_aux_lemma => kernel_rfl) (fun _ _ _ h => h) (Or.inl ⟨by kernel_rfl, ?_⟩) hS ?_
    · intro w hSw; (try dsimp only at hSw); go_simp
    simp only [Act.put, List.getElem_toArray, List.getElem_cons_zero, List.getElem_cons_succ, List.setIfInBounds_toArray, List.set_cons_zero, List.set_cons_succ]
    refine wpAnyH_ready (rs := [10]) (by as_aux_lemma => kernel_rfl) (by simp) ?_
    refine AllReadyH.cons rfl (fun K hK => ?_) AllReadyH.nil
    have s1 : w5.cell? ⟨B, 1, none⟩ = some (.slice va out.length vc) := by have := hB5.cell 1; simpa using this
    have sf1 := hB5.frozen 1
    go_simp
    have hS6 : (w5.setCell ⟨B, 1, none⟩ (.slice va5 (out.length + 1) vc5)).cell? ⟨bI, 0, none⟩ = some (.int .i64 o) ∧ (w5.setCell ⟨B, 1, none⟩ (.slice va5 (out.length + 1) vc5)).cell? ⟨bI, 1, none⟩ = some (.int .i64 k) ∧ (w5.setCell ⟨B, 1, none⟩ (.slice va5 (out.length + 1) vc5)).cell? ⟨bI, 2, none⟩ = some (.int .i64 c) ∧ (w5.setCell ⟨B, 1, none⟩ (.slice va5 (out.length + 1) vc5)).cell? ⟨bI, 3, none⟩ = some (.string s) ∧ (w5.setCell ⟨B, 1, none⟩ (.slice va5 (out.length + 1) vc5)).cell? ⟨bI, 4, none⟩ = some (.int .i64 l) ∧ (w5.setCell ⟨B, 1, none⟩ (.slice va5 (out.length + 1) vc5)).cell? ⟨bI, 5, none⟩ = some (.int .i64 r) ∧ (w5.setCell ⟨B, 1, none⟩ (.slice va5 (out.length + 1) vc5)).cell? ⟨bI, 6, none⟩ = some (.int .i64 x) ∧ (w5.setCell ⟨B, 1, none⟩ (.slice va5 (out.length + 1) vc5)).cell? ⟨bI, 7, none⟩ = some (.int .i64 y) := ⟨(World.cell?_of_block (Below.heap_setCell w5 ⟨B, 1, none⟩ (.slice va5 (out.length + 1) vc5) bI (by simp only; omega))).trans hS.1, (World.cell?_of_block (Below.heap_setCell w5 ⟨B, 1, none⟩ (.slice va5 (out.length + 1) vc5) bI (by simp only; omega))).trans hS.2.1, (World.cell?_of_block (Below.heap_setCell w5 ⟨B, 1, none⟩ (.slice va5 (out.length + 1) vc5) bI (by simp only; omega))).trans hS.2.2.1, (World.cell?_of_block (Below.heap_setCell w5 ⟨B, 1, none⟩ (.slice va5 (out.length + 1) vc5) bI (by simp only; omega))).trans hS.2.2.2.1, (World.cell?_of_block (Below.heap_setCell w5 ⟨B, 1, none⟩ (.slice va5 (out.length + 1) vc5) bI (by simp only; omega))).trans hS.2.2.2.2.1, (World.cell?_of_block (Below.heap_setCell w5 ⟨B, 1, none⟩ (.slice va5 (out.length + 1) vc5) bI (by simp only; omega))).trans hS.2.2.2.2.2.1, (World.cell?_of_block (Below.heap_setCell w5 ⟨B, 1, none⟩ (.slice va5 (out.length + 1) vc5) bI (by simp only; omega))).trans hS.2.2.2.2.2.2.1, (World.cell?_of_block (Below.heap_setCell w5 ⟨B, 1, none⟩ (.slice va5 (out.length + 1) vc5) bI (by simp only; omega))).trans hS.2.2.2.2.2.2.2⟩
    refine hK.out _ _ hS6 (fun hS => ?_)
    clear hK K
    (try simp only [Act.put, List.getElem_toArray, List.getElem_cons_zero, List.getElem_cons_succ, List.setIfInBounds_toArray, List.set_cons_zero, List.set_cons_succ])
    refine wpAnyH_done (by kernel_rfl) ?_ _
    have hW : Wr w0 B NV (w5.setCell ⟨B, 1, none⟩ (.slice va5 (out.length + 1) vc5)) (.slice va5 (out.length + 1) vc5) (out ++ [(⟨o, k, c, s, l, r, x, y⟩ : In)]) := ⟨by have := hB5.set (i := 1) (.slice va5 (out.length + 1) vc5); simpa using this, by rw [List.length_append]; exact ho5.setBelow (by simp) _, hb5.setCell hbs _, hbs⟩
    have HWR : Hid _ := hW
    have HKW : Hid (Kw B (.slice va out.length vc) w (.slice va5 (out.length + 1) vc5) (w5.setCell ⟨B, 1, none⟩ (.slice va5 (out.length + 1) vc5))) := HK0.out.trans ((Kw.of_below HBE.out _ _).trans ((Kw.grown B hg5 hn5).trans (Kw.setB _ _ _ 1 _)))
    clear hW ho5 hB5 hb5 hg5 hn5 hS
    go_wp2
    go_ret
    exact ⟨rfl, _, HKW.out, HWR.out⟩
  · skip
    go_simp
    refine hK.out _ _ ⟨cell_later ((Below.refl _ _).alloc (Nat.le_refl _) (.cells #[.int .i64 o, .int .i64 k, .int .i64 c, .string s, .int .i64 l, .int .i64 r, .int .i64 x, .int .i64 y] 91)) hS.1, cell_later ((Below.refl _ _).alloc (Nat.le_refl _) (.cells #[.int .i64 o, .int .i64 k, .int .i64 c, .string s, .int .i64 l, .int .i64 r, .int .i64 x, .int .i64 y] 91)) hS.2.1, cell_later ((Below.refl _ _).alloc (Nat.le_refl _) (.cells #[.int .i64 o, .int .i64 k, .int .i64 c, .string s, .int .i64 l, .int .i64 r, .int .i64 x, .int .i64 y] 91)) hS.2.2.1, cell_later ((Below.refl _ _).alloc (Nat.le_refl _) (.cells #[.int .i64 o, .int .i64 k, .int .i64 c, .string s, .int .i64 l, .int .i64 r, .int .i64 x, .int .i64 y] 91)) hS.2.2.2.1, cell_later ((Below.refl _ _).alloc (Nat.le_refl _) (.cells #[.int .i64 o, .int .i64 k, .int .i64 c, .string s, .int .i64 l, .int .i64 r, .int .i64 x, .int .i64 y] 91)) hS.2.2.2.2.1, cell_later ((Below.refl _ _).alloc (Nat.le_refl _) (.cells #[.int .i64 o, .int .i64 k, .int .i64 c, .string s, .int .i64 l, .int .i64 r, .int .i64 x, .int .i64 y] 91)) hS.2.2.2.2.2.1, cell_later ((Below.refl _ _).alloc (Nat.le_refl _) (.cells #[.int .i64 o, .int .i64 k, .int .i64 c, .string s, .int .i64 l, .int .i64 r, .int .i64 x, .int .i64 y] 91)) hS.2.2.2.2.2.2.1, cell_later ((Below.refl _ _).alloc (Nat.le_refl _) (.cells #[.int .i64 o, .int .i64 k, .int .i64 c, .string s, .int .i64 l, .int .i64 r, .int .i64 x, .int .i64 y] 91)) hS.2.2.2.2.2.2.2⟩ (fun hS => ?_)
    clear hK K
    (try simp only [Act.put, List.getElem_toArray, List.getElem_cons_zero, List.getElem_cons_succ, List.setIfInBounds_toArray, List.set_cons_zero, List.set_cons_succ])
    refine wpAnyH_ready (rs := [4]) (by as_aux_lemma => kernel_rfl) (by simp) ?_
    refine AllReadyH.cons rfl (fun K hK => ?_) AllReadyH.nil
    go_simp
    refine hK.out _ _ hS (fun hS => ?_)
    clear hK K
    (try simp only [Act.put, List.getElem_toArray, List.getElem_cons_zero, List.getElem_cons_succ, List.setIfInBounds_toArray, List.set_cons_zero, List.set_cons_succ])
    refine wpAnyH_ready (rs := [7]) (by as_aux_lemma => kernel_rfl) (by simp) ?_
    refine AllReadyH.cons rfl (fun K hK => ?_) AllReadyH.nil
    refine wp_appIn2 _ _ rfl (B + 1) _ out.length out rfl HOA.out _ _ (⟨o, k, c, s, l, r, x, y⟩ : In) rfl HCI.out (show out.length ≤ 1000000 by omega) (by simp; omega) ?_
    intro v5 w5 ho5 hg5 hn5
    obtain ⟨va5, vc5, hv5, -, -, -⟩ := ho5.rd inE_len
    subst hv5
    have hne : ∀ j, (Value.slice va out.length vc).ownBlock = some j → B + 1 ≤ j ∧ j < bI := fun j hj => ⟨(HOA.out.lt j hj).1, HNB.out j hj⟩
    have hB5 : Blk w5 B #[NV, .slice va out.length vc] 100 := HBA.out.kept hg5 (fun e => by have := hne B e.symm; omega)
    have hb5 : Below w0.heap.size w0 w5 := HWA.out.grown hg5 (by simp; omega) (fun j hj => by have := hne j hj; omega)
    have hS5 : w5.cell? ⟨bI, 0, none⟩ = some (.int .i64 o) ∧ w5.cell? ⟨bI, 1, none⟩ = some (.int .i64 k) ∧ w5.cell? ⟨bI, 2, none⟩ = some (.int .i64 c) ∧ w5.cell? ⟨bI, 3, none⟩ = some (.string s) ∧ w5.cell? ⟨bI, 4, none⟩ = some (.int .i64 l) ∧ w5.cell? ⟨bI, 5, none⟩ = some (.int .i64 r) ∧ w5.cell? ⟨bI, 6, none⟩ = some (.int .i64 x) ∧ w5.cell? ⟨bI, 7, none⟩ = some (.int .i64 y) := ⟨grown_cell hg5 HSA.out.1 (fun j hj e => by have q := hne j hj; simp only at e; omega), grown_cell hg5 HSA.out.2.1 (fun j hj e => by have q := hne j hj; simp only at e; omega), grown_cell hg5 HSA.out.2.2.1 (fun j hj e => by have q := hne j hj; simp only at e; omega), grown_cell hg5 HSA.out.2.2.2.1 (fun j hj e => by have q := hne j hj; simp only at e; omega), grown_cell hg5 HSA.out.2.2.2.2.1 (fun j hj e => by have q := hne j hj; simp only at e; omega), grown_cell hg5 HSA.out.2.2.2.2.2.1 (fun j hj e => by have q := hne j hj; simp only at e; omega), grown_cell hg5 HSA.out.2.2.2.2.2.2.1 (fun j hj e => by have q := hne j hj; simp only at e; omega), grown_cell hg5 HSA.out.2.2.2.2.2.2.2 (fun j hj e => by have q := hne j hj; simp only at e; omega)⟩
    refine hK.out _ _ hS5 (fun hS => ?_)
    clear hK K
    (try simp only [Act.put, List.getElem_toArray, List.getElem_cons_zero, List.getElem_cons_succ, List.setIfInBounds_toArray, List.set_cons_zero, List.set_cons_succ])
    refine wpAnyH_take (i := 8) (v := (.pointer (some ⟨B, 0, none⟩))) rfl (by as_aux_lemma => kernel_rfl) (by as_aux_lemma => kernel_rfl) (by as_aux_lemma => kernel_rfl) (fun _ _ _ h => h) (Or.inl ⟨by kernel_rfl, ?_⟩) hS ?_
    · intro w hSw; (try dsimp only at hSw); go_simp
    simp only [Act.put, List.getElem_toArray, List.getElem_cons_zero, List.getElem_cons_succ, List.setIfInBounds_toArray, List.set_cons_zero, List.set_cons_succ]
    refine wpAnyH_take (i := 9) (v := (.pointer (some ⟨B, 1, none⟩))) rfl (by as_aux_lemma => kernel_rfl) (by as_aux_lemma => kernel_rfl) (by as_aux_lemma => kernel_rfl) (fun _ _ _ h => h) (Or.inl ⟨by kernel_rfl, ?_⟩) hS ?_
    · intro w hSw; (try dsimp only at hSw); go_simp
    simp only [Act.put, List.getElem_toArray, List.getElem_cons_zero, List.getElem_cons_succ, List.setIfInBounds_toArray, List.set_cons_zero, List.set_cons_succ]
    refine wpAnyH_ready (rs := [10]) (by as_aux_lemma => kernel_rfl) (by simp) ?_
    refine AllReadyH.cons rfl (fun K hK => ?_) AllReadyH.nil
    have s1 : w5.cell? ⟨B, 1, none⟩ = some (.slice va out.length vc) := by have := hB5.cell 1; simpa using this
    have sf1 := hB5.frozen 1
    go_simp
    have hS6 : (w5.setCell ⟨B, 1, none⟩ (.slice va5 (out.length + 1) vc5)).cell? ⟨bI, 0, none⟩ = some (.int .i64 o) ∧ (w5.setCell ⟨B, 1, none⟩ (.slice va5 (out.length + 1) vc5)).cell? ⟨bI, 1, none⟩ = some (.int .i64 k) ∧ (w5.setCell ⟨B, 1, none⟩ (.slice va5 (out.length + 1) vc5)).cell? ⟨bI, 2, none⟩ = some (.int .i64 c) ∧ (w5.setCell ⟨B, 1, none⟩ (.slice va5 (out.length + 1) vc5)).cell? ⟨bI, 3, none⟩ = some (.string s) ∧ (w5.setCell ⟨B, 1, none⟩ (.slice va5 (out.length + 1) vc5)).cell? ⟨bI, 4, none⟩ = some (.int .i64 l) ∧ (w5.setCell ⟨B, 1, none⟩ (.slice va5 (out.length + 1) vc5)).cell? ⟨bI, 5, none⟩ = some (.int .i64 r) ∧ (w5.setCell ⟨B, 1, none⟩ (.slice va5 (out.length + 1) vc5)).cell? ⟨bI, 6, none⟩ = some (.int .i64 x) ∧ (w5.setCell ⟨B, 1, none⟩ (.slice va5 (out.length + 1) vc5)).cell? ⟨bI, 7, none⟩ = some (.int .i64 y) := ⟨(World.cell?_of_block (Below.heap_setCell w5 ⟨B, 1, none⟩ (.slice va5 (out.length + 1) vc5) bI (by simp only; omega))).trans hS.1, (World.cell?_of_block (Below.heap_setCell w5 ⟨B, 1, none⟩ (.slice va5 (out.length + 1) vc5) bI (by simp only; omega))).trans hS.2.1, (World.cell?_of_block (Below.heap_setCell w5 ⟨B, 1, none⟩ (.slice va5 (out.length + 1) vc5) bI (by simp only; omega))).trans hS.2.2.1, (World.cell?_of_block (Below.heap_setCell w5 ⟨B, 1, none⟩ (.slice va5 (out.length + 1) vc5) bI (by simp only; omega))).trans hS.2.2.2.1, (World.cell?_of_block (Below.heap_setCell w5 ⟨B, 1, none⟩ (.slice va5 (out.length + 1) vc5) bI (by simp only; omega))).trans hS.2.2.2.2.1, (World.cell?_of_block (Below.heap_setCell w5 ⟨B, 1, none⟩ (.slice va5 (out.length + 1) vc5) bI (by simp only; omega))).trans hS.2.2.2.2.2.1, (World.cell?_of_block (Below.heap_setCell w5 ⟨B, 1, none⟩ (.slice va5 (out.length + 1) vc5) bI (by simp only; omega))).trans hS.2.2.2.2.2.2.1, (World.cell?_of_block (Below.heap_setCell w5 ⟨B, 1, none⟩ (.slice va5 (out.length + 1) vc5) bI (by simp only; omega))).trans hS.2.2.2.2.2.2.2⟩
    refine hK.out _ _ hS6 (fun hS => ?_)
    clear hK K
    (try simp only [Act.put, List.getElem_toArray, List.getElem_cons_zero, List.getElem_cons_succ, List.setIfInBounds_toArray, List.set_cons_zero, List.set_cons_succ])
    refine wpAnyH_done (by kernel_rfl) ?_ _
    have hW : Wr w0 B NV (w5.setCell ⟨B, 1, none⟩ (.slice va5 (out.length + 1) vc5)) (.slice va5 (out.length + 1) vc5) (out ++ [(⟨o, k, c, s, l, r, x, y⟩ : In)]) := ⟨by have := hB5.set (i := 1) (.slice va5 (out.length + 1) vc5); simpa using this, by rw [List.length_append]; exact ho5.setBelow (by simp) _, hb5.setCell hbs _, hbs⟩
    have HWR : Hid _ := hW
    have HKW : Hid (Kw B (.slice va out.length vc) w (.slice va5 (out.length + 1) vc5) (w5.setCell ⟨B, 1, none⟩ (.slice va5 (out.length + 1) vc5))) := HK0.out.trans ((Kw.of_below HBE.out _ _).trans ((Kw.grown B hg5 hn5).trans (Kw.setB _ _ _ 1 _)))
    clear hW ho5 hB5 hb5 hg5 hn5 hS
    go_wp2
    go_ret
    exact ⟨rfl, _, HKW.out, HWR.out⟩

end Go.Proofs.Ytjkipdamohljpaa

namespace Go.Proofs.Ytjkipdamohljpaa
open Go.RowKit
set_option linter.unusedVariables false
set_option linter.unusedSimpArgs false

/-- What 'write' does with trees at places below f. -/
def WOK (w0 : World) (B : Nat) (NV : Value) (ns : List Nd) (bs : List Int) (n f : Nat) : Prop :=
  ∀ (p : Nat) (v : Value) (out : List In) (w : World), p < n → p < f → Wr w0 B NV w v out → (out.length : Int) + 2 * ((p : Int) + 1) ≤ 1000 + 2 * bs.getD p 0 →
    Calls Try.prog 68 #[.pointer (some ⟨B, 0, none⟩), .int .i64 (p : Int)] w fun r w' => r = .returned (.tuple #[]) ∧ ∃ v', Kw B v w v' w' ∧ Wr w0 B NV w' v' (out ++ cod ns f out.length p)

theorem Wr.as {w0 : World} {B : Nat} {NV : Value} {w : World} {v : Value} {out R : List In} (h : Wr w0 B NV w v out) (e : out = R) : Wr w0 B NV w v R := e ▸ h

theorem Wr.lit {w0 : World} {B : Nat} {NV : Value} {w : World} {v : Value} {out : List In} (h : Wr w0 B NV w v out) (hp : 0 < out.length) : ∃ g vc, v = .slice (some ⟨g, 0, none⟩) out.length vc ∧ B + 1 ≤ g := by
  obtain ⟨g, vc, rfl⟩ := own_addr h.own hp
  exact ⟨g, vc, rfl, (h.own.lt g rfl).1⟩

theorem Wr.cell1 {w0 : World} {B : Nat} {NV : Value} {w : World} {v : Value} {out : List In} (h : Wr w0 B NV w v out) : w.cell? ⟨B, 1, none⟩ = some v := by
  have := h.blk.cell 1
  simpa using this

/-- One instruction is turned where it stands. -/
theorem Wr.turn {w0 : World} {B : Nat} {NV : Value} {w : World} {g vc n : Nat} {out : List In} (h : Wr w0 B NV w (.slice (some ⟨g, 0, none⟩) n vc) out) (hn : n = out.length) {q f : Nat} {x y : In} {u : Value} (hx : out[q]? = some x) (hf : f < 8) (hy : inE y = (inE x).set f u) :
    Wr w0 B NV (w.setCell ⟨g, q * 8 + f, none⟩ u) (.slice (some ⟨g, 0, none⟩) n vc) (out.set q y) := by
  subst hn
  have hg := (h.own.lt g rfl).1
  have hst := OwnR.store inE_len h.own hx hf hy
  exact ⟨(Below.heap_setCell w ⟨g, q * 8 + f, none⟩ u B (by simp only; omega)).trans h.blk, by rw [List.length_set]; exact hst.1, h.below.setCell (by have := h.base; simp only; omega) _, h.base⟩

set_option maxHeartbeats 6400000 in
set_option maxRecDepth 20000 in
theorem writeEither_any (w0 : World) (B : Nat) (NV : Value) (ns : List Nd) (bs : List Int) (n f : Nat) (hW : WOK w0 B NV ns bs n f) (p ln rn : Nat) (k c : Int) (s : ByteArray)
    (hp : p < n) (hpf : p < f + 1) (h1 : 1 < p) (hrn : rn = p - 1) (hb1 : 0 < bs.getD rn 0) (hln : (ln : Int) = bs.getD rn 0 - 1) (hb2 : bs.getD rn 0 ≤ (p : Int) - 1) (hbl : bs.getD ln 0 = bs.getD p 0)
    (cl : ∀ here q, q < n → q < f → ((cod ns f here q).length : Int) + 2 * bs.getD q 0 ≤ 2 * ((q : Int) + 1))
    (v : Value) (out : List In) (w : World) (h : Wr w0 B NV w v out) (hK : (out.length : Int) + 2 * ((p : Int) + 1) ≤ 1000 + 2 * bs.getD p 0) (hb0 : 0 ≤ bs.getD p 0 ∧ bs.getD p 0 ≤ p)
    (N : Nat) (hN : N = out.length) (C1 C2 : List In) (J L : Nat) (hC1 : C1 = cod ns f (N + 1) ln) (hJ : J = N + 1 + C1.length) (hC2 : C2 = cod ns f (J + 1) rn) (hL : L = J + 1 + C2.length) :
    Calls Try.prog 100 #[.pointer (some ⟨B, 0, none⟩), .agg #[.int .i64 k, .int .i64 c, .string s, .int .i64 (ln : Int), .int .i64 (rn : Int)]] w fun r w' => r = .returned (.tuple #[]) ∧ ∃ v', Kw B v w v' w' ∧ Wr w0 B NV w' v' (out ++ (nI 2 ((N : Int) + 1) ((J + 1 : Nat) : Int) :: (C1 ++ nI 3 (L : Int) 0 :: C2))) := by
  have hc1 := cl (N + 1) ln (by omega) (by omega)
  have hc2 := cl (J + 1) rn (by omega) (by omega)
  rw [← hC1] at hc1
  rw [← hC2] at hc2
  -- the programs on the way
  have l1 : (out ++ [nI 2 ((N : Int) + 1) 0]).length = N + 1 := by rw [List.length_append, ← hN]; rfl
  have l2 : (out ++ [nI 2 ((N : Int) + 1) 0] ++ C1).length = J := by rw [List.length_append, l1, hJ]
  have l3 : (out ++ [nI 2 ((N : Int) + 1) 0] ++ C1 ++ [nI 3 0 0]).length = J + 1 := by rw [List.length_append, l2]; rfl
  have l4 : (out ++ [nI 2 ((N : Int) + 1) 0] ++ C1 ++ [nI 3 0 0] ++ C2).length = L := by rw [List.length_append, l3, hL]
  have HA : Hid _ := fun v' w' h' => hW ln v' (out ++ [nI 2 ((N : Int) + 1) 0]) w' (by omega) (by omega) h' (by rw [l1]; omega)
  have HB : Hid _ := fun v' w' h' => hW rn v' (out ++ [nI 2 ((N : Int) + 1) 0] ++ C1 ++ [nI 3 0 0]) w' (by omega) (by omega) h' (by rw [l3]; omega)
  have hHA := HA.out
  have hHB := HB.out
  rw [l1, ← hC1] at hHA
  rw [l3, ← hC2] at hHB
  have HA2 : Hid _ := hHA
  have HB2 : Hid _ := hHB
  have HX0 : Hid _ := fun w' h' => next_any w0 B NV w' v out h' (by omega)
  have hX0 := HX0.out
  rw [← hN] at hX0
  have HX1 : Hid _ := hX0
  have HP0 : Hid _ := fun w' h' => put_any w0 B NV (nI 2 ((N : Int) + 1) 0) w' v out h' (by omega)
  have hP0 := HP0.out
  rw [← hN] at hP0
  have HP1 : Hid _ := hP0
  have HQ0 : Hid _ := fun v' w' h' => put_any w0 B NV (nI 3 0 0) w' v' (out ++ [nI 2 ((N : Int) + 1) 0] ++ C1) h' (by omega)
  have hQ0 := HQ0.out
  rw [l2] at hQ0
  have HQ1 : Hid _ := hQ0
  have H1 : Hid _ := h.later ((Below.refl w.heap.size w).alloc (Nat.le_refl _) (.cells #[.int .i64 k, .int .i64 c, .string s, .int .i64 (ln : Int), .int .i64 (rn : Int)] 89))
  have HN : Hid _ := hN
  have hN9 : N ≤ 2000 := by omega
  have hJ9 : J ≤ 2000 := by omega
  have hL9 : L ≤ 4000 := by omega
  have hNJ : N < J := by omega
  have hJL : J < L := by omega
  have HL1 : Hid _ := l1
  have HL2 : Hid _ := l2
  have HL4 : Hid _ := l4
  have HBL : Hid (B < w.heap.size) := h.blk.lt
  have HNE : Hid (w.heap.size ≠ B) := by have := h.blk.lt; intro e; omega
  have BD : Hid (Blk (w.alloc (.cells #[.int .i64 k, .int .i64 c, .string s, .int .i64 (ln : Int), .int .i64 (rn : Int)] 89)) w.heap.size #[.int .i64 k, .int .i64 c, .string s, .int .i64 (ln : Int), .int .i64 (rn : Int)] 89 ∧ v.ownBlock ≠ some w.heap.size) := ⟨Blk.new w _ _, h.new⟩
  have K1 : Hid (Kw B v w v (w.alloc (.cells #[.int .i64 k, .int .i64 c, .string s, .int .i64 (ln : Int), .int .i64 (rn : Int)] 89))) := Kw.of_below ((Below.refl _ _).alloc (Nat.le_refl _) _) _ _
  clear hHA hHB HA HB hX0 HX0 hP0 HP0 hQ0 HQ0 h hc1 hc2 cl hW hK hb0 hC1 hC2 hJ hL l1 l2 l3 l4 hN hln hb1 hb2 hbl hrn h1 hp hpf
  go_enter Try.func100, Try.ntmps100
  go_wp2_with fail
  refine (HX1.out _ H1.out).mono ?_
  rintro r1 w1 ⟨rfl, hw1⟩
  have hw2 := hw1.symm
  subst hw2
  clear hw1
  go_wp2_with fail
  refine (HP1.out _ H1.out).mono ?_
  rintro r2 w2 ⟨rfl, v2, hk2, h2⟩
  have K2 : Hid (Kw B v w v2 w2) := K1.out.trans hk2
  have BD2 : Hid (Blk w2 w.heap.size #[.int .i64 k, .int .i64 c, .string s, .int .i64 (ln : Int), .int .i64 (rn : Int)] 89 ∧ v2.ownBlock ≠ some w.heap.size) := hk2.blk BD.out HNE.out
  have q3 : w2.cell? ⟨w.heap.size, 3, none⟩ = some (.int .i64 (ln : Int)) := by have := BD2.out.1.cell 3; simpa using this
  clear hk2
  go_wp2_with fail
  refine (HA2.out _ _ h2).mono ?_
  rintro r3 w3 ⟨rfl, v3, hk3, h3⟩
  have K3 : Hid (Kw B v w v3 w3) := K2.out.trans hk3
  have BD3 : Hid (Blk w3 w.heap.size #[.int .i64 k, .int .i64 c, .string s, .int .i64 (ln : Int), .int .i64 (rn : Int)] 89 ∧ v3.ownBlock ≠ some w.heap.size) := hk3.blk BD2.out HNE.out
  clear hk3 q3
  go_wp2_with fail
  refine (HQ1.out _ _ h3).mono ?_
  rintro r4 w4 ⟨rfl, v4, hk4, h4⟩
  have K4 : Hid (Kw B v w v4 w4) := K3.out.trans hk4
  have BD4 : Hid (Blk w4 w.heap.size #[.int .i64 k, .int .i64 c, .string s, .int .i64 (ln : Int), .int .i64 (rn : Int)] 89 ∧ v4.ownBlock ≠ some w.heap.size) := hk4.blk BD3.out HNE.out
  have q4 : w4.cell? ⟨w.heap.size, 4, none⟩ = some (.int .i64 (rn : Int)) := by have := BD4.out.1.cell 4; simpa using this
  clear hk4
  go_wp2_with fail
  refine (HB2.out _ _ h4).mono ?_
  rintro r5 w5 ⟨rfl, v5, hk5, h5⟩
  have K5 : Hid (Kw B v w v5 w5) := K4.out.trans hk5
  obtain ⟨g, vc, rfl, hg⟩ := h5.lit (by rw [HL4.out]; omega)
  rw [HL4.out] at h5
  have hat : (out ++ [nI 2 ((N : Int) + 1) 0] ++ C1 ++ [nI 3 0 0] ++ C2)[N]? = some (nI 2 ((N : Int) + 1) 0) := by
    rw [show out ++ [nI 2 ((N : Int) + 1) 0] ++ C1 ++ [nI 3 0 0] ++ C2 = out ++ nI 2 ((N : Int) + 1) 0 :: (C1 ++ [nI 3 0 0] ++ C2) by simp, List.getElem?_append_right (by rw [← HN.out]; exact Nat.le_refl _), ← HN.out, Nat.sub_self]
    rfl
  have ho5 := own_len h5.own HL4.out
  have d7 := OwnR.cell (f := 7) inE_len ho5 hat rfl
  have f7 := ho5.frozen (N * 8 + 7)
  have cB5 := h5.cell1
  have h6 := h5.turn HL4.out.symm (f := 7) (u := .int .i64 ((J : Int) + 1)) (y := nI 2 ((N : Int) + 1) ((J : Int) + 1)) hat (by omega) rfl
  have K6 : Hid (Kw B v w (.slice (some ⟨g, 0, none⟩) L vc) (w5.setCell ⟨g, N * 8 + 7, none⟩ (.int .i64 ((J : Int) + 1)))) := (HL4.out ▸ K5.out).trans (Kw.row _ _ _ _ _ _ _)
  have hlist : (out ++ [nI 2 ((N : Int) + 1) 0] ++ C1 ++ [nI 3 0 0] ++ C2).set N (nI 2 ((N : Int) + 1) ((J : Int) + 1)) = (out ++ nI 2 ((N : Int) + 1) ((J : Int) + 1) :: C1) ++ nI 3 0 0 :: C2 := by
    rw [show out ++ [nI 2 ((N : Int) + 1) 0] ++ C1 ++ [nI 3 0 0] ++ C2 = out ++ nI 2 ((N : Int) + 1) 0 :: (C1 ++ [nI 3 0 0] ++ C2) by simp, set_at HN.out.symm]
    simp
  rw [hlist] at h6
  have hlJ : (out ++ nI 2 ((N : Int) + 1) ((J : Int) + 1) :: C1).length = J := by
    have := HL2.out
    simp only [List.length_append, List.length_cons, List.length_nil] at this ⊢
    omega
  have hlL : ((out ++ nI 2 ((N : Int) + 1) ((J : Int) + 1) :: C1) ++ nI 3 0 0 :: C2).length = L := by rw [← hlist, List.length_set]; exact HL4.out
  have hNL : (N : Int) < (L : Int) := by omega
  have HLJ : Hid _ := hlJ
  have HLL : Hid _ := hlL
  have H6 : Hid _ := h6
  clear hk5 hat ho5 h5 hlist hlJ hlL h6 q4 h2 h3 h4
  go_wp2
  generalize hw6 : w5.setCell ⟨g, N * 8 + 7, none⟩ (.int .i64 ((J : Int) + 1)) = w6 at *
  have hat8 : ((out ++ nI 2 ((N : Int) + 1) ((J : Int) + 1) :: C1) ++ nI 3 0 0 :: C2)[J]? = some (nI 3 0 0) := by
    rw [List.getElem?_append_right (by rw [HLJ.out]; exact Nat.le_refl _), HLJ.out, Nat.sub_self]
    rfl
  have ho6 := own_len H6.out.own HLL.out
  have d8 := OwnR.cell (f := 6) inE_len ho6 hat8 rfl
  have f8 := ho6.frozen (J * 8 + 6)
  have d8' : w6.drew.cell? ⟨g, J * 8 + 6, none⟩ = some (.int .i64 0) := d8
  have f8' : w6.drew.frozen? ⟨g, J * 8 + 6, none⟩ = false := f8
  have cB1 := H6.out.cell1
  have HWL : Hid _ := H6.out.later (Below.refl w6.heap.size w6).drew
  have h7 := HWL.out.turn HLL.out.symm (f := 6) (u := .int .i64 (L : Int)) (y := nI 3 (L : Int) 0) hat8 (by omega) rfl
  rw [set_at HLJ.out] at h7
  have H7 : Hid _ := h7
  have K7 : Hid (Kw B v w (.slice (some ⟨g, 0, none⟩) L vc) (w6.drew.setCell ⟨g, J * 8 + 6, none⟩ (.int .i64 (L : Int)))) := K6.out.trans ((Kw.of_below (Below.refl w6.heap.size w6).drew _ _).trans (Kw.row _ _ _ _ _ _ _))
  have hx6 := fun w' h' => next_any w0 B NV w' (.slice (some ⟨g, 0, none⟩) L vc) ((out ++ nI 2 ((N : Int) + 1) ((J : Int) + 1) :: C1) ++ nI 3 0 0 :: C2) h' (by rw [HLL.out]; omega)
  rw [HLL.out] at hx6
  have HX : Hid _ := hx6
  have hJL' : (J : Int) < (L : Int) := by omega
  clear hat8 ho6 h7 hx6 hw6 d7 f7 cB5
  refine wp_region_held_drew (S := fun w' => w'.cell? ⟨B, 1, none⟩ = some (.slice (some ⟨g, 0, none⟩) L vc)) (by kernel_rfl) (by exact cB1) (fun hS => ?_)
  refine wpAnyH_take (i := 0) (v := (.pointer (some ⟨B, 0, none⟩))) rfl (by as_aux_lemma => kernel_rfl) (by as_aux_lemma => kernel_rfl) (by as_aux_lemma => kernel_rfl) (fun _ _ _ h => h) (Or.inl ⟨by kernel_rfl, ?_⟩) hS ?_
  · intro w hSw; (try dsimp only at hSw); go_simp
  simp only [Act.put, List.getElem_toArray, List.getElem_cons_zero, List.getElem_cons_succ, List.setIfInBounds_toArray, List.set_cons_zero, List.set_cons_succ]
  refine wpAnyH_take (i := 1) (v := (.pointer (some ⟨B, 0, none⟩))) rfl (by as_aux_lemma => kernel_rfl) (by as_aux_lemma => kernel_rfl) (by as_aux_lemma => kernel_rfl) (fun _ _ _ h => h) (Or.inl ⟨by kernel_rfl, ?_⟩) hS ?_
  · intro w hSw; (try dsimp only at hSw); go_simp
  simp only [Act.put, List.getElem_toArray, List.getElem_cons_zero, List.getElem_cons_succ, List.setIfInBounds_toArray, List.set_cons_zero, List.set_cons_succ]
  refine wpAnyH_take (i := 2) (v := (.pointer (some ⟨B, 1, none⟩))) rfl (by as_aux_lemma => kernel_rfl) (by as_aux_lemma => kernel_rfl) (by as_aux_lemma => kernel_rfl) (fun _ _ _ h => h) (Or.inl ⟨by kernel_rfl, ?_⟩) hS ?_
  · intro w hSw; (try dsimp only at hSw); go_simp
  simp only [Act.put, List.getElem_toArray, List.getElem_cons_zero, List.getElem_cons_succ, List.setIfInBounds_toArray, List.set_cons_zero, List.set_cons_succ]
  refine wpAnyH_take (i := 3) (v := (.slice (some ⟨g, 0, none⟩) L vc)) rfl (by as_aux_lemma => kernel_rfl) (by as_aux_lemma => kernel_rfl) (by as_aux_lemma => kernel_rfl) (fun _ _ _ h => h) (Or.inl ⟨by kernel_rfl, ?_⟩) hS ?_
  · intro w hSw; (try dsimp only at hSw); go_simp
  simp only [Act.put, List.getElem_toArray, List.getElem_cons_zero, List.getElem_cons_succ, List.setIfInBounds_toArray, List.set_cons_zero, List.set_cons_succ]
  refine wpAnyH_take (i := 4) (v := (.int .i64 (J : Int))) rfl (by as_aux_lemma => kernel_rfl) (by as_aux_lemma => kernel_rfl) (by as_aux_lemma => kernel_rfl) (fun _ _ _ h => h) (Or.inl ⟨by kernel_rfl, ?_⟩) hS ?_
  · intro w hSw; (try dsimp only at hSw); go_simp
  simp only [Act.put, List.getElem_toArray, List.getElem_cons_zero, List.getElem_cons_succ, List.setIfInBounds_toArray, List.set_cons_zero, List.set_cons_succ]
  refine wpAnyH_take (i := 5) (v := (.pointer (some ⟨B, 0, none⟩))) rfl (by as_aux_lemma => kernel_rfl) (by as_aux_lemma => kernel_rfl) (by as_aux_lemma => kernel_rfl) (fun _ _ _ h => h) (Or.inl ⟨by kernel_rfl, ?_⟩) hS ?_
  · intro w hSw; (try dsimp only at hSw); go_simp
  simp only [Act.put, List.getElem_toArray, List.getElem_cons_zero, List.getElem_cons_succ, List.setIfInBounds_toArray, List.set_cons_zero, List.set_cons_succ]
  refine wpAnyH_ready (rs := [6]) (by as_aux_lemma => kernel_rfl) (by simp) ?_
  refine AllReadyH.cons rfl (fun K hK => ?_) AllReadyH.nil
  go_simp
  refine (HX.out _ HWL.out).mono ?_
  rintro rr wx ⟨rfl, hwx⟩
  have hwy := hwx.symm
  subst hwy
  clear hwx
  refine hK.out _ _ hS (fun hS => ?_)
  clear hK K
  (try simp only [Act.put, List.getElem_toArray, List.getElem_cons_zero, List.getElem_cons_succ, List.setIfInBounds_toArray, List.set_cons_zero, List.set_cons_succ])
  refine wpAnyH_take (i := 7) (v := (.pointer (some ⟨g, J * 8, none⟩))) rfl (by as_aux_lemma => kernel_rfl) (by as_aux_lemma => kernel_rfl) (by as_aux_lemma => kernel_rfl) (fun _ _ _ h => h) (Or.inl ⟨by kernel_rfl, ?_⟩) hS ?_
  · intro w hSw; (try dsimp only at hSw); go_simp
  simp only [Act.put, List.getElem_toArray, List.getElem_cons_zero, List.getElem_cons_succ, List.setIfInBounds_toArray, List.set_cons_zero, List.set_cons_succ]
  refine wpAnyH_take (i := 8) (v := (.pointer (some ⟨g, J * 8 + 6, none⟩))) rfl (by as_aux_lemma => kernel_rfl) (by as_aux_lemma => kernel_rfl) (by as_aux_lemma => kernel_rfl) (fun _ _ _ h => h) (Or.inl ⟨by kernel_rfl, ?_⟩) hS ?_
  · intro w hSw; (try dsimp only at hSw); go_simp
  simp only [Act.put, List.getElem_toArray, List.getElem_cons_zero, List.getElem_cons_succ, List.setIfInBounds_toArray, List.set_cons_zero, List.set_cons_succ]
  refine wpAnyH_ready (rs := [9]) (by as_aux_lemma => kernel_rfl) (by simp) ?_
  refine AllReadyH.cons rfl (fun K hK => ?_) AllReadyH.nil
  go_simp
  have hS9 : (w6.drew.setCell ⟨g, J * 8 + 6, none⟩ (.int .i64 (L : Int))).cell? ⟨B, 1, none⟩ = some (.slice (some ⟨g, 0, none⟩) L vc) := (World.cell?_of_block (Below.heap_setCell w6.drew ⟨g, J * 8 + 6, none⟩ _ B (by simp only; omega))).trans hS
  refine hK.out _ _ hS9 (fun hS => ?_)
  clear hK K
  (try simp only [Act.put, List.getElem_toArray, List.getElem_cons_zero, List.getElem_cons_succ, List.setIfInBounds_toArray, List.set_cons_zero, List.set_cons_succ])
  refine wpAnyH_done (by kernel_rfl) ?_ _
  clear hS
  go_wp2
  exact bodyPost_end (v := .tuple #[]) (by simp [results, Try.results100, go_sem]) rfl ⟨rfl, _, K7.out, H7.out.as (by simp)⟩
end Go.Proofs.Ytjkipdamohljpaa

namespace Go.Proofs.Ytjkipdamohljpaa
open Go.RowKit
set_option linter.unusedVariables false
set_option linter.unusedSimpArgs false

/-- Nothing, or one instruction that lies in a box of its own. -/
def OneT (w : World) (xv : Value) (T : List In) : Prop :=
  (xv = .slice none 0 0 ∧ T = []) ∨ ∃ b c i, xv = .slice (some ⟨b, 0, none⟩) 1 c ∧ T = [i] ∧ ∀ f u, (inE i)[f]? = some u → w.cell? ⟨b, f, none⟩ = some u
def OneB (B : Nat) (v : Value) (w : World) (xv : Value) (T : List In) : Prop :=
  (xv = .slice none 0 0 ∧ T = []) ∨ ∃ b c i, xv = .slice (some ⟨b, 0, none⟩) 1 c ∧ T = [i] ∧ b ≠ B ∧ Blk w b (inE i).toArray 91 ∧ v.ownBlock ≠ some b

theorem OneB.later {B : Nat} {v v' xv : Value} {w w' : World} {T : List In} (h : OneB B v w xv T) (k : Kw B v w v' w') : OneT w' xv T := by
  rcases h with h0 | ⟨b, c, i, h1, h2, h3, h4, h5⟩
  · exact .inl h0
  · exact .inr ⟨b, c, i, h1, h2, fun f u hu => ((k.blk ⟨h4, h5⟩ h3).1.cell f).trans (by simpa using hu)⟩
theorem OneB.len {B : Nat} {v xv : Value} {w : World} {T : List In} (h : OneB B v w xv T) : T.length ≤ 1 := by
  rcases h with ⟨-, rfl⟩ | ⟨b, c, i, -, rfl, -⟩ <;> simp

theorem wpList_appT {w : World} {ops : Array Oper} {rest : List Oper} {o : Oper} {a : Act} {Q : Exit → Act → World → Prop} (hgd : o.guard = none) (s x : Operand)
    (ho : o.op = .call { callee := .builtin .append, args := #[s, x], argTypes := #[24, 24] }) (base : Nat) (v : Value) (n : Nat) (xs : List In) (hs : a.eval s = v) (hown : OwnR inE 8 91 w base v n xs)
    (xv : Value) (T : List In) (hx : a.eval x = xv) (hT : OneT w xv T) (n' : Nat) (hn' : n + T.length = n') (hn : n ≤ 1000000) (hbase : base ≤ w.heap.size)
    (h : ∀ v' w', OwnR inE 8 91 w' base v' n' (xs ++ T) → w.grownBy w' v.ownBlock → (v'.ownBlock = v.ownBlock ∨ ∀ j, v'.ownBlock = some j → w.heap.size ≤ j) → wpList Try.prog ops Q rest (a.put o.dst v') w') : wpList Try.prog ops Q (o :: rest) a w := by
  subst hn'
  refine wpList_plain hgd fun K hK => ?_
  rcases hT with ⟨rfl, rfl⟩ | ⟨b, c, i, rfl, rfl, hc⟩
  · exact wp_appNil s x ho base v n xs hs hown 0 hx (hK _ _ (h v w (by simpa using hown) (World.grownBy.refl _ _) (.inl rfl)))
  · exact wp_appIn2 s x ho base v n xs hs hown b c i hx hc hn hbase fun v' w' h1 h2 h3 => hK _ _ (h v' w' h1 h2 h3)

set_option maxHeartbeats 6400000 in
set_option maxRecDepth 20000 in
theorem writeOrNot_any (w0 : World) (B : Nat) (NV : Value) (ns : List Nd) (bs : List Int) (n f : Nat) (hW : WOK w0 B NV ns bs n f) (q : Nat) (hq : q < n) (hqf : q < f)
    (v : Value) (out : List In) (w : World) (h : Wr w0 B NV w v out) (hK : (out.length : Int) + 1 + 2 * ((q : Int) + 1) ≤ 1000 + 2 * bs.getD q 0) (hbq : bs.getD q 0 ≤ q)
    (N : Nat) (hN : N = out.length) (C1 T : List In) (hC1 : C1 = cod ns f (N + 1) q) (hc1 : (C1.length : Int) + 2 * bs.getD q 0 ≤ 2 * ((q : Int) + 1)) (xv : Value) (hT : OneB B v w xv T) (M L : Nat) (hM : M = N + 1 + C1.length) (hL : M + T.length = L) :
    Calls Try.prog 101 #[.pointer (some ⟨B, 0, none⟩), .int .i64 (q : Int), xv] w fun r w' => r = .returned (.tuple #[]) ∧ ∃ v', Kw B v w v' w' ∧ Wr w0 B NV w' v' (out ++ (nI 2 ((N : Int) + 1) ((L : Nat) : Int) :: (C1 ++ T))) := by
  have hT1 := hT.len
  have l1 : (out ++ [nI 2 ((N : Int) + 1) 0]).length = N + 1 := by rw [List.length_append, ← hN]; rfl
  have l2 : (out ++ [nI 2 ((N : Int) + 1) 0] ++ C1).length = M := by rw [List.length_append, l1, hM]
  have l3 : (out ++ [nI 2 ((N : Int) + 1) 0] ++ C1 ++ T).length = L := by rw [List.length_append, l2, hL]
  have HA : Hid _ := fun v' w' h' => hW q v' (out ++ [nI 2 ((N : Int) + 1) 0]) w' (by omega) (by omega) h' (by rw [l1]; omega)
  have hHA := HA.out
  rw [l1, ← hC1] at hHA
  have HA2 : Hid _ := hHA
  have HX0 : Hid _ := fun w' h' => next_any w0 B NV w' v out h' (by omega)
  have hX0 := HX0.out
  rw [← hN] at hX0
  have HX1 : Hid _ := hX0
  have HP0 : Hid _ := fun w' h' => put_any w0 B NV (nI 2 ((N : Int) + 1) 0) w' v out h' (by omega)
  have hP0 := HP0.out
  rw [← hN] at hP0
  have HP1 : Hid _ := hP0
  have H1 : Hid _ := h
  have HN : Hid _ := hN
  have hN9 : N ≤ 2000 := by omega
  have hM9 : M ≤ 2000 := by omega
  have hL9 : L ≤ 4000 := by omega
  have hNM : N < M := by omega
  have hNL : (N : Int) < (L : Int) := by omega
  have HL2 : Hid _ := l2
  have HL3 : Hid _ := l3
  have HT : Hid _ := hT
  have HML : Hid _ := hL
  clear hHA HA hX0 HX0 hP0 HP0 h hc1 hW hK hbq hC1 hM hL l1 l2 l3 hN hT hq hqf
  go_enter Try.func101, Try.ntmps101
  go_wp2_with fail
  refine (HX1.out _ H1.out).mono ?_
  rintro r1 w1 ⟨rfl, hw1⟩
  have hw2 := hw1.symm
  subst hw2
  clear hw1
  go_wp2_with fail
  refine (HP1.out _ H1.out).mono ?_
  rintro r2 w2 ⟨rfl, v2, hk2, h2⟩
  have K2 : Hid (Kw B v w v2 w2) := hk2
  clear hk2
  go_wp2_with fail
  refine (HA2.out _ _ h2).mono ?_
  rintro r3 w3 ⟨rfl, v3, hk3, h3⟩
  have K3 : Hid (Kw B v w v3 w3) := K2.out.trans hk3
  have HT3 : Hid (OneT w3 xv T) := OneB.later HT.out K3.out
  obtain ⟨va, vc, rfl, -, -, -⟩ := h3.own.rd inE_len
  rw [HL2.out] at h3 K3
  have c3 := h3.cell1
  have H3 : Hid _ := h3
  have HO3 : Hid _ := own_len h3.own HL2.out
  have HBZ : Hid (B + 1 ≤ w3.heap.size) := h3.blk.lt
  clear hk3 h3 h2
  go_wp2_with (at_builtin; refine wpList_appT rfl _ _ rfl (B + 1) _ _ _ rfl HO3.out xv T rfl HT3.out L HML.out (by omega) HBZ.out ?_)
  intro v5 w5 ho5 hg5 hn5
  obtain ⟨g, vc5, rfl⟩ := own_addr ho5 (by omega)
  have hg := (ho5.lt g rfl).1
  have hB5 : Blk w5 B #[NV, .slice va M vc] 100 := H3.out.blk.kept hg5 (fun e => by have := (H3.out.own.lt B e.symm).1; omega)
  have s1 : w5.cell? ⟨B, 1, none⟩ = some (.slice va M vc) := by have := hB5.cell 1; simpa using this
  have sf1 := hB5.frozen 1
  have hb5 : Below w0.heap.size w0 w5 := H3.out.below.grown hg5 H3.out.below.size (fun j hj => by have := (H3.out.own.lt j hj).1; have := H3.out.base; omega)
  have h6 : Wr w0 B NV (w5.setCell ⟨B, 1, none⟩ (.slice (some ⟨g, 0, none⟩) L vc5)) (.slice (some ⟨g, 0, none⟩) L vc5) (out ++ [nI 2 ((N : Int) + 1) 0] ++ C1 ++ T) :=
    ⟨by have := hB5.set (i := 1) (.slice (some ⟨g, 0, none⟩) L vc5); simpa using this, by rw [HL3.out]; rw [show out ++ [nI 2 ((N : Int) + 1) 0] ++ C1 ++ T = out ++ nI 2 ((N : Int) + 1) 0 :: (C1 ++ T) by simp]; exact ho5.setBelow (a := ⟨B, 1, none⟩) (show B < B + 1 by omega) _, hb5.setCell H3.out.base _, H3.out.base⟩
  have K6 : Hid (Kw B v w (.slice (some ⟨g, 0, none⟩) L vc5) (w5.setCell ⟨B, 1, none⟩ (.slice (some ⟨g, 0, none⟩) L vc5))) := K3.out.trans ((Kw.grown B hg5 hn5).trans (Kw.setB _ _ _ 1 _))
  have H6 : Hid _ := h6
  clear hb5 ho5 hg5 hn5 h6 c3
  go_wp2
  generalize hw6 : w5.setCell ⟨B, 1, none⟩ (.slice (some ⟨g, 0, none⟩) L vc5) = w6 at *
  have hat : (out ++ [nI 2 ((N : Int) + 1) 0] ++ C1 ++ T)[N]? = some (nI 2 ((N : Int) + 1) 0) := by
    rw [show out ++ [nI 2 ((N : Int) + 1) 0] ++ C1 ++ T = out ++ nI 2 ((N : Int) + 1) 0 :: (C1 ++ T) by simp, List.getElem?_append_right (by rw [← HN.out]; exact Nat.le_refl _), ← HN.out, Nat.sub_self]
    rfl
  have ho6 := own_len H6.out.own HL3.out
  have d7 := OwnR.cell (f := 7) inE_len ho6 hat rfl
  have f7 := ho6.frozen (N * 8 + 7)
  have d7' : w6.drew.cell? ⟨g, N * 8 + 7, none⟩ = some (.int .i64 0) := d7
  have f7' : w6.drew.frozen? ⟨g, N * 8 + 7, none⟩ = false := f7
  have cB1 := H6.out.cell1
  have HWL : Hid _ := H6.out.later (Below.refl w6.heap.size w6).drew
  have h7 := HWL.out.turn HL3.out.symm (f := 7) (u := .int .i64 (L : Int)) (y := nI 2 ((N : Int) + 1) (L : Int)) hat (by omega) rfl
  rw [show out ++ [nI 2 ((N : Int) + 1) 0] ++ C1 ++ T = out ++ nI 2 ((N : Int) + 1) 0 :: (C1 ++ T) by simp, set_at HN.out.symm] at h7
  have H7 : Hid _ := h7
  have K7 : Hid (Kw B v w (.slice (some ⟨g, 0, none⟩) L vc5) (w6.drew.setCell ⟨g, N * 8 + 7, none⟩ (.int .i64 (L : Int)))) := K6.out.trans ((Kw.of_below (Below.refl w6.heap.size w6).drew _ _).trans (Kw.row _ _ _ _ _ _ _))
  have hx6 := fun w' h' => next_any w0 B NV w' (.slice (some ⟨g, 0, none⟩) L vc5) (out ++ [nI 2 ((N : Int) + 1) 0] ++ C1 ++ T) h' (by rw [HL3.out]; omega)
  rw [HL3.out] at hx6
  have HX : Hid _ := hx6
  clear hat ho6 h7 hx6 hw6 hB5 s1 sf1
  refine wp_region_held_drew (S := fun w' => w'.cell? ⟨B, 1, none⟩ = some (.slice (some ⟨g, 0, none⟩) L vc5)) (by kernel_rfl) (by exact cB1) (fun hS => ?_)
  refine wpAnyH_take (i := 0) (v := (.pointer (some ⟨B, 0, none⟩))) rfl (by as_aux_lemma => kernel_rfl) (by as_aux_lemma => kernel_rfl) (by as_aux_lemma => kernel_rfl) (fun _ _ _ h => h) (Or.inl ⟨by kernel_rfl, ?_⟩) hS ?_
  · intro w hSw; (try dsimp only at hSw); go_simp
  simp only [Act.put, List.getElem_toArray, List.getElem_cons_zero, List.getElem_cons_succ, List.setIfInBounds_toArray, List.set_cons_zero, List.set_cons_succ]
  refine wpAnyH_take (i := 1) (v := (.pointer (some ⟨B, 0, none⟩))) rfl (by as_aux_lemma => kernel_rfl) (by as_aux_lemma => kernel_rfl) (by as_aux_lemma => kernel_rfl) (fun _ _ _ h => h) (Or.inl ⟨by kernel_rfl, ?_⟩) hS ?_
  · intro w hSw; (try dsimp only at hSw); go_simp
  simp only [Act.put, List.getElem_toArray, List.getElem_cons_zero, List.getElem_cons_succ, List.setIfInBounds_toArray, List.set_cons_zero, List.set_cons_succ]
  refine wpAnyH_take (i := 2) (v := (.pointer (some ⟨B, 1, none⟩))) rfl (by as_aux_lemma => kernel_rfl) (by as_aux_lemma => kernel_rfl) (by as_aux_lemma => kernel_rfl) (fun _ _ _ h => h) (Or.inl ⟨by kernel_rfl, ?_⟩) hS ?_
  · intro w hSw; (try dsimp only at hSw); go_simp
  simp only [Act.put, List.getElem_toArray, List.getElem_cons_zero, List.getElem_cons_succ, List.setIfInBounds_toArray, List.set_cons_zero, List.set_cons_succ]
  refine wpAnyH_take (i := 3) (v := (.slice (some ⟨g, 0, none⟩) L vc5)) rfl (by as_aux_lemma => kernel_rfl) (by as_aux_lemma => kernel_rfl) (by as_aux_lemma => kernel_rfl) (fun _ _ _ h => h) (Or.inl ⟨by kernel_rfl, ?_⟩) hS ?_
  · intro w hSw; (try dsimp only at hSw); go_simp
  simp only [Act.put, List.getElem_toArray, List.getElem_cons_zero, List.getElem_cons_succ, List.setIfInBounds_toArray, List.set_cons_zero, List.set_cons_succ]
  refine wpAnyH_take (i := 4) (v := (.int .i64 (N : Int))) rfl (by as_aux_lemma => kernel_rfl) (by as_aux_lemma => kernel_rfl) (by as_aux_lemma => kernel_rfl) (fun _ _ _ h => h) (Or.inl ⟨by kernel_rfl, ?_⟩) hS ?_
  · intro w hSw; (try dsimp only at hSw); go_simp
  simp only [Act.put, List.getElem_toArray, List.getElem_cons_zero, List.getElem_cons_succ, List.setIfInBounds_toArray, List.set_cons_zero, List.set_cons_succ]
  refine wpAnyH_take (i := 5) (v := (.pointer (some ⟨B, 0, none⟩))) rfl (by as_aux_lemma => kernel_rfl) (by as_aux_lemma => kernel_rfl) (by as_aux_lemma => kernel_rfl) (fun _ _ _ h => h) (Or.inl ⟨by kernel_rfl, ?_⟩) hS ?_
  · intro w hSw; (try dsimp only at hSw); go_simp
  simp only [Act.put, List.getElem_toArray, List.getElem_cons_zero, List.getElem_cons_succ, List.setIfInBounds_toArray, List.set_cons_zero, List.set_cons_succ]
  refine wpAnyH_ready (rs := [6]) (by as_aux_lemma => kernel_rfl) (by simp) ?_
  refine AllReadyH.cons rfl (fun K hK => ?_) AllReadyH.nil
  go_simp
  refine (HX.out _ HWL.out).mono ?_
  rintro rr wx ⟨rfl, hwx⟩
  have hwy := hwx.symm
  subst hwy
  clear hwx
  refine hK.out _ _ hS (fun hS => ?_)
  clear hK K
  (try simp only [Act.put, List.getElem_toArray, List.getElem_cons_zero, List.getElem_cons_succ, List.setIfInBounds_toArray, List.set_cons_zero, List.set_cons_succ])
  refine wpAnyH_take (i := 7) (v := (.pointer (some ⟨g, N * 8, none⟩))) rfl (by as_aux_lemma => kernel_rfl) (by as_aux_lemma => kernel_rfl) (by as_aux_lemma => kernel_rfl) (fun _ _ _ h => h) (Or.inl ⟨by kernel_rfl, ?_⟩) hS ?_
  · intro w hSw; (try dsimp only at hSw); go_simp
  simp only [Act.put, List.getElem_toArray, List.getElem_cons_zero, List.getElem_cons_succ, List.setIfInBounds_toArray, List.set_cons_zero, List.set_cons_succ]
  refine wpAnyH_take (i := 8) (v := (.pointer (some ⟨g, N * 8 + 7, none⟩))) rfl (by as_aux_lemma => kernel_rfl) (by as_aux_lemma => kernel_rfl) (by as_aux_lemma => kernel_rfl) (fun _ _ _ h => h) (Or.inl ⟨by kernel_rfl, ?_⟩) hS ?_
  · intro w hSw; (try dsimp only at hSw); go_simp
  simp only [Act.put, List.getElem_toArray, List.getElem_cons_zero, List.getElem_cons_succ, List.setIfInBounds_toArray, List.set_cons_zero, List.set_cons_succ]
  refine wpAnyH_ready (rs := [9]) (by as_aux_lemma => kernel_rfl) (by simp) ?_
  refine AllReadyH.cons rfl (fun K hK => ?_) AllReadyH.nil
  go_simp
  have hS9 : (w6.drew.setCell ⟨g, N * 8 + 7, none⟩ (.int .i64 (L : Int))).cell? ⟨B, 1, none⟩ = some (.slice (some ⟨g, 0, none⟩) L vc5) := (World.cell?_of_block (Below.heap_setCell w6.drew ⟨g, N * 8 + 7, none⟩ _ B (by simp only; omega))).trans hS
  refine hK.out _ _ hS9 (fun hS => ?_)
  clear hK K
  (try simp only [Act.put, List.getElem_toArray, List.getElem_cons_zero, List.getElem_cons_succ, List.setIfInBounds_toArray, List.set_cons_zero, List.set_cons_succ])
  refine wpAnyH_done (by kernel_rfl) ?_ _
  clear hS
  go_wp2
  exact bodyPost_end (v := .tuple #[]) (by simp [results, Try.results101, go_sem]) rfl ⟨rfl, _, K7.out, H7.out⟩
end Go.Proofs.Ytjkipdamohljpaa

namespace Go.Proofs.Ytjkipdamohljpaa
open Go.RowKit
set_option linter.unusedVariables false
set_option linter.unusedSimpArgs false

set_option maxHeartbeats 12800000 in
set_option maxRecDepth 20000 in
theorem write_step (w0 : World) (B : Nat) (a : Option Addr) (n ca : Nat) (ns : List Nd) (ha : RdR ndE 5 w0 a n ns) (bs : List Int) (hb : Beg ns n bs) (f : Nat) (hW : WOK w0 B (.slice a n ca) ns bs n f) : WOK w0 B (.slice a n ca) ns bs n (f + 1) := by
  intro p v out w hp hf h hK
  have hlen := ha.1
  have cl := fun here q hq hq' => cod_len hb hlen.symm f here q hq hq'
  obtain ⟨b1, o1, i, rfl, hx, hc1⟩ := ha.at hp
  have hF := (hb.at_ p i hp hx).1.1
  have hbd := hb.bd (by omega) hp
  have HBD : Hid (∀ {i : Nat}, i < n → 0 ≤ bs.getD i 0 ∧ bs.getD i 0 ≤ i) := fun {i} hi => hb.bd (by omega) hi
  have hon := fun h => hb.one hp hx h
  have htw := fun h => hb.two hp hx h
  have HX : Hid _ := hx
  obtain ⟨e0, e1, e2, e3, e4⟩ := five hc1
  have c0 := cell_later h.below e0
  have c1 := cell_later h.below e1
  have c2 := cell_later h.below e2
  have c3 := cell_later h.below e3
  have c4 := cell_later h.below e4
  have hl1000 : out.length ≤ 1000 := by omega
  have hpn : (p : Int) < (n : Int) := by omega
  have HX0 : Hid _ := fun w' h' => next_any w0 B (.slice (some ⟨b1, o1, none⟩) n ca) w' v out h' (by omega)
  have hX0 := HX0.out
  obtain ⟨N, hN⟩ : ∃ N, N = out.length := ⟨_, rfl⟩
  rw [← hN] at hX0 hl1000 ⊢
  have HX1 : Hid _ := hX0
  have HN : Hid _ := hN
  have H0 : Hid _ := h
  have HW : Hid _ := hW
  have HCL : Hid _ := cl
  obtain ⟨C, hC⟩ : ∃ C, cod ns (f + 1) N p = C := ⟨_, rfl⟩
  rw [hC]
  have HC : Hid _ := hC
  have hK' := hK
  rw [← hN] at hK'
  have HPN : Hid _ := hp
  have HPF : Hid _ := hf
  have cB0 : w.cell? ⟨B, 0, none⟩ = some (.slice (some ⟨b1, o1, none⟩) n ca) := by have := h.blk.cell 0; simpa using this
  have HNE : Hid (w.heap.size ≠ B) := by have := h.blk.lt; intro e; omega
  have HVN : Hid _ := h.new
  have HB : Hid (Blk (w.alloc (.cells #[.int .i64 0, .int .i64 0, .string ⟨#[]⟩, .int .i64 0, .int .i64 0] 89)).drew w.heap.size #[.int .i64 0, .int .i64 0, .string ⟨#[]⟩, .int .i64 0, .int .i64 0] 89) := Blk.new w _ _
  have d0 : (w.alloc (.cells #[.int .i64 0, .int .i64 0, .string ⟨#[]⟩, .int .i64 0, .int .i64 0] 89)).drew.cell? ⟨w.heap.size, 0, none⟩ = some (.int .i64 0) := HB.out.cell 0
  have df0 := HB.out.frozen 0
  have d1 : (w.alloc (.cells #[.int .i64 0, .int .i64 0, .string ⟨#[]⟩, .int .i64 0, .int .i64 0] 89)).drew.cell? ⟨w.heap.size, 1, none⟩ = some (.int .i64 0) := HB.out.cell 1
  have df1 := HB.out.frozen 1
  have d2 : (w.alloc (.cells #[.int .i64 0, .int .i64 0, .string ⟨#[]⟩, .int .i64 0, .int .i64 0] 89)).drew.cell? ⟨w.heap.size, 2, none⟩ = some (.string ⟨#[]⟩) := HB.out.cell 2
  have df2 := HB.out.frozen 2
  have d3 : (w.alloc (.cells #[.int .i64 0, .int .i64 0, .string ⟨#[]⟩, .int .i64 0, .int .i64 0] 89)).drew.cell? ⟨w.heap.size, 3, none⟩ = some (.int .i64 0) := HB.out.cell 3
  have df3 := HB.out.frozen 3
  have d4 : (w.alloc (.cells #[.int .i64 0, .int .i64 0, .string ⟨#[]⟩, .int .i64 0, .int .i64 0] 89)).drew.cell? ⟨w.heap.size, 4, none⟩ = some (.int .i64 0) := HB.out.cell 4
  have df4 := HB.out.frozen 4
  clear hC hx hc1 hN hb h hW cl hX0 HX0 e0 e1 e2 e3 e4 ha hlen
  obtain ⟨k, c, s, l, r⟩ := i
  simp only at c0 c1 c2 c3 c4 hF hon htw
  have HON : Hid _ := hon
  have HTW : Hid _ := htw
  clear hon htw
  go_enter Try.func68, Try.ntmps68
  go_wp2_with fail
  refine region_join (fun a a' w' => True ∧ a' = (((((((((((a.put (some 6) (.pointer (some ⟨B, 0, none⟩))).put (some 7) (.pointer (some ⟨B, 0, none⟩))).put (some 8) (.pointer (some ⟨B, 0, none⟩))).put (some 9) (.slice (some ⟨b1, o1, none⟩) n ca)).put (some 10) (.int .i64 (p : Int))).put (some 11) (.pointer (some ⟨b1, o1 + p * 5, none⟩))).put (some 12) (.agg #[.int .i64 k, .int .i64 c, .string s, .int .i64 l, .int .i64 r])).put (some 13) (.pointer (some ⟨B, 0, none⟩))).put (some 14) (.int .i64 (N : Int))).put (some 4) (.pointer (some ⟨w.heap.size, 0, none⟩))).put (some 5) (.int .i64 (N : Int))) ∧ Kw B v w v w' ∧ Wr w0 B (.slice (some ⟨b1, o1, none⟩) n ca) w' v out ∧ Blk w' w.heap.size #[.int .i64 k, .int .i64 c, .string s, .int .i64 l, .int .i64 r] 89) ?_ ?_
  · refine wp_region_held_drew (S := fun w' => Below w.heap.size w w') (by kernel_rfl) (Below.refl _ _).drew (fun hS => ?_)
    refine wpAnyH_take (i := 0) (v := (.pointer (some ⟨B, 0, none⟩))) rfl (by as_aux_lemma => kernel_rfl) (by as_aux_lemma => kernel_rfl) (by as_aux_lemma => kernel_rfl) (fun _ _ _ h => nomatch h.1) (Or.inl ⟨by kernel_rfl, ?_⟩) hS ?_
    · intro w hSw; (try dsimp only at hSw); have hl9 := cell_later hSw cB0; have hl0 := cell_later hSw c0; have hl1 := cell_later hSw c1; have hl2 := cell_later hSw c2; have hl3 := cell_later hSw c3; have hl4 := cell_later hSw c4; go_simp
    simp only [Act.put, List.getElem_toArray, List.getElem_cons_zero, List.getElem_cons_succ, List.setIfInBounds_toArray, List.set_cons_zero, List.set_cons_succ]
    refine wpAnyH_take (i := 1) (v := (.pointer (some ⟨B, 0, none⟩))) rfl (by as_aux_lemma => kernel_rfl) (by as_aux_lemma => kernel_rfl) (by as_aux_lemma => kernel_rfl) (fun _ _ _ h => nomatch h.1) (Or.inl ⟨by kernel_rfl, ?_⟩) hS ?_
    · intro w hSw; (try dsimp only at hSw); have hl9 := cell_later hSw cB0; have hl0 := cell_later hSw c0; have hl1 := cell_later hSw c1; have hl2 := cell_later hSw c2; have hl3 := cell_later hSw c3; have hl4 := cell_later hSw c4; go_simp
    simp only [Act.put, List.getElem_toArray, List.getElem_cons_zero, List.getElem_cons_succ, List.setIfInBounds_toArray, List.set_cons_zero, List.set_cons_succ]
    refine wpAnyH_take (i := 2) (v := (.pointer (some ⟨B, 0, none⟩))) rfl (by as_aux_lemma => kernel_rfl) (by as_aux_lemma => kernel_rfl) (by as_aux_lemma => kernel_rfl) (fun _ _ _ h => nomatch h.1) (Or.inl ⟨by kernel_rfl, ?_⟩) hS ?_
    · intro w hSw; (try dsimp only at hSw); have hl9 := cell_later hSw cB0; have hl0 := cell_later hSw c0; have hl1 := cell_later hSw c1; have hl2 := cell_later hSw c2; have hl3 := cell_later hSw c3; have hl4 := cell_later hSw c4; go_simp
    simp only [Act.put, List.getElem_toArray, List.getElem_cons_zero, List.getElem_cons_succ, List.setIfInBounds_toArray, List.set_cons_zero, List.set_cons_succ]
    refine wpAnyH_take (i := 3) (v := (.slice (some ⟨b1, o1, none⟩) n ca)) rfl (by as_aux_lemma => kernel_rfl) (by as_aux_lemma => kernel_rfl) (by as_aux_lemma => kernel_rfl) (fun _ _ _ h => nomatch h.1) (Or.inl ⟨by kernel_rfl, ?_⟩) hS ?_
    · intro w hSw; (try dsimp only at hSw); have hl9 := cell_later hSw cB0; have hl0 := cell_later hSw c0; have hl1 := cell_later hSw c1; have hl2 := cell_later hSw c2; have hl3 := cell_later hSw c3; have hl4 := cell_later hSw c4; go_simp
    simp only [Act.put, List.getElem_toArray, List.getElem_cons_zero, List.getElem_cons_succ, List.setIfInBounds_toArray, List.set_cons_zero, List.set_cons_succ]
    refine wpAnyH_take (i := 4) (v := (.int .i64 (p : Int))) rfl (by as_aux_lemma => kernel_rfl) (by as_aux_lemma => kernel_rfl) (by as_aux_lemma => kernel_rfl) (fun _ _ _ h => nomatch h.1) (Or.inl ⟨by kernel_rfl, ?_⟩) hS ?_
    · intro w hSw; (try dsimp only at hSw); have hl9 := cell_later hSw cB0; have hl0 := cell_later hSw c0; have hl1 := cell_later hSw c1; have hl2 := cell_later hSw c2; have hl3 := cell_later hSw c3; have hl4 := cell_later hSw c4; go_simp
    simp only [Act.put, List.getElem_toArray, List.getElem_cons_zero, List.getElem_cons_succ, List.setIfInBounds_toArray, List.set_cons_zero, List.set_cons_succ]
    refine wpAnyH_take (i := 5) (v := (.pointer (some ⟨b1, o1 + p * 5, none⟩))) rfl (by as_aux_lemma => kernel_rfl) (by as_aux_lemma => kernel_rfl) (by as_aux_lemma => kernel_rfl) (fun _ _ _ h => nomatch h.1) (Or.inl ⟨by kernel_rfl, ?_⟩) hS ?_
    · intro w hSw; (try dsimp only at hSw); have hl9 := cell_later hSw cB0; have hl0 := cell_later hSw c0; have hl1 := cell_later hSw c1; have hl2 := cell_later hSw c2; have hl3 := cell_later hSw c3; have hl4 := cell_later hSw c4; go_simp
    simp only [Act.put, List.getElem_toArray, List.getElem_cons_zero, List.getElem_cons_succ, List.setIfInBounds_toArray, List.set_cons_zero, List.set_cons_succ]
    refine wpAnyH_take (i := 6) (v := (.agg #[.int .i64 k, .int .i64 c, .string s, .int .i64 l, .int .i64 r])) rfl (by as_aux_lemma => kernel_rfl) (by as_aux_lemma => kernel_rfl) (by as_aux_lemma => kernel_rfl) (fun _ _ _ h => nomatch h.1) (Or.inl ⟨by kernel_rfl, ?_⟩) hS ?_
    · intro w hSw; (try dsimp only at hSw); have hl9 := cell_later hSw cB0; have hl0 := cell_later hSw c0; have hl1 := cell_later hSw c1; have hl2 := cell_later hSw c2; have hl3 := cell_later hSw c3; have hl4 := cell_later hSw c4; go_simp
    simp only [Act.put, List.getElem_toArray, List.getElem_cons_zero, List.getElem_cons_succ, List.setIfInBounds_toArray, List.set_cons_zero, List.set_cons_succ]
    refine wpAnyH_take (i := 7) (v := (.pointer (some ⟨B, 0, none⟩))) rfl (by as_aux_lemma => kernel_rfl) (by as_aux_lemma => kernel_rfl) (by as_aux_lemma => kernel_rfl) (fun _ _ _ h => nomatch h.1) (Or.inl ⟨by kernel_rfl, ?_⟩) hS ?_
    · intro w hSw; (try dsimp only at hSw); have hl9 := cell_later hSw cB0; have hl0 := cell_later hSw c0; have hl1 := cell_later hSw c1; have hl2 := cell_later hSw c2; have hl3 := cell_later hSw c3; have hl4 := cell_later hSw c4; go_simp
    simp only [Act.put, List.getElem_toArray, List.getElem_cons_zero, List.getElem_cons_succ, List.setIfInBounds_toArray, List.set_cons_zero, List.set_cons_succ]
    refine wpAnyH_ready (rs := [8, 9]) (by as_aux_lemma => kernel_rfl) (by simp) ?_
    refine AllReadyH.cons rfl (fun K hK => ?_) (AllReadyH.cons rfl (fun K hK => ?_) AllReadyH.nil)
    · skip
      go_simp
      refine (HX1.out _ (H0.out.later hS)).mono ?_
      rintro rr wx ⟨rfl, hwx⟩
      have hwy := hwx.symm
      subst hwy
      clear hwx
      refine hK.out _ _ hS (fun hS => ?_)
      clear hK K
      (try simp only [Act.put, List.getElem_toArray, List.getElem_cons_zero, List.getElem_cons_succ, List.setIfInBounds_toArray, List.set_cons_zero, List.set_cons_succ])
      refine wpAnyH_ready (rs := [9]) (by as_aux_lemma => kernel_rfl) (by simp) ?_
      refine AllReadyH.cons rfl (fun K hK => ?_) AllReadyH.nil
      go_simp
      refine hK.out _ _ (hS.alloc hS.size _) (fun hS => ?_)
      clear hK K
      (try simp only [Act.put, List.getElem_toArray, List.getElem_cons_zero, List.getElem_cons_succ, List.setIfInBounds_toArray, List.set_cons_zero, List.set_cons_succ])
      refine wpAnyH_ready (rs := [10]) (by as_aux_lemma => kernel_rfl) (by simp) ?_
      refine AllReadyH.cons rfl (fun K hK => ?_) AllReadyH.nil
      go_simp
      refine hK.out _ _ (((Below.refl w.heap.size w).alloc (Nat.le_refl _) _).drew) (fun hS => ?_)
      clear hK K
      (try simp only [Act.put, List.getElem_toArray, List.getElem_cons_zero, List.getElem_cons_succ, List.setIfInBounds_toArray, List.set_cons_zero, List.set_cons_succ])
      refine wpAnyH_take (i := 11) (v := (.int .i64 (N : Int))) rfl (by as_aux_lemma => kernel_rfl) (by as_aux_lemma => kernel_rfl) (by as_aux_lemma => kernel_rfl) (fun _ _ _ h => nomatch h.1) (Or.inl ⟨by kernel_rfl, ?_⟩) hS ?_
      · intro w hSw; (try dsimp only at hSw); have hl9 := cell_later hSw cB0; have hl0 := cell_later hSw c0; have hl1 := cell_later hSw c1; have hl2 := cell_later hSw c2; have hl3 := cell_later hSw c3; have hl4 := cell_later hSw c4; go_simp
      simp only [Act.put, List.getElem_toArray, List.getElem_cons_zero, List.getElem_cons_succ, List.setIfInBounds_toArray, List.set_cons_zero, List.set_cons_succ]
      refine wpAnyH_done (by kernel_rfl) ?_ _
      refine ⟨rfl, trivial, ?_, Kw.of_below hS _ _, H0.out.later hS, Blk.new w _ _⟩
      simp only [Act.put, List.getElem_toArray, List.getElem_cons_zero, List.getElem_cons_succ, List.setIfInBounds_toArray, List.set_cons_zero, List.set_cons_succ]
    · skip
      go_simp
      refine hK.out _ _ (hS.alloc hS.size _) (fun hS => ?_)
      clear hK K
      (try simp only [Act.put, List.getElem_toArray, List.getElem_cons_zero, List.getElem_cons_succ, List.setIfInBounds_toArray, List.set_cons_zero, List.set_cons_succ])
      refine wpAnyH_ready (rs := [8]) (by as_aux_lemma => kernel_rfl) (by simp) ?_
      refine AllReadyH.cons rfl (fun K hK => ?_) AllReadyH.nil
      go_simp
      refine (HX1.out _ (H0.out.later hS)).mono ?_
      rintro rr wx ⟨rfl, hwx⟩
      have hwy := hwx.symm
      subst hwy
      clear hwx
      refine hK.out _ _ hS (fun hS => ?_)
      clear hK K
      (try simp only [Act.put, List.getElem_toArray, List.getElem_cons_zero, List.getElem_cons_succ, List.setIfInBounds_toArray, List.set_cons_zero, List.set_cons_succ])
      refine wpAnyH_ready (rs := [10]) (by as_aux_lemma => kernel_rfl) (by simp) ?_
      refine AllReadyH.cons rfl (fun K hK => ?_) AllReadyH.nil
      go_simp
      refine hK.out _ _ (((Below.refl w.heap.size w).alloc (Nat.le_refl _) _).drew) (fun hS => ?_)
      clear hK K
      (try simp only [Act.put, List.getElem_toArray, List.getElem_cons_zero, List.getElem_cons_succ, List.setIfInBounds_toArray, List.set_cons_zero, List.set_cons_succ])
      refine wpAnyH_take (i := 11) (v := (.int .i64 (N : Int))) rfl (by as_aux_lemma => kernel_rfl) (by as_aux_lemma => kernel_rfl) (by as_aux_lemma => kernel_rfl) (fun _ _ _ h => nomatch h.1) (Or.inl ⟨by kernel_rfl, ?_⟩) hS ?_
      · intro w hSw; (try dsimp only at hSw); have hl9 := cell_later hSw cB0; have hl0 := cell_later hSw c0; have hl1 := cell_later hSw c1; have hl2 := cell_later hSw c2; have hl3 := cell_later hSw c3; have hl4 := cell_later hSw c4; go_simp
      simp only [Act.put, List.getElem_toArray, List.getElem_cons_zero, List.getElem_cons_succ, List.setIfInBounds_toArray, List.set_cons_zero, List.set_cons_succ]
      refine wpAnyH_done (by kernel_rfl) ?_ _
      refine ⟨rfl, trivial, ?_, Kw.of_below hS _ _, H0.out.later hS, Blk.new w _ _⟩
      simp only [Act.put, List.getElem_toArray, List.getElem_cons_zero, List.getElem_cons_succ, List.setIfInBounds_toArray, List.set_cons_zero, List.set_cons_succ]
  · rintro a' w1 ⟨-, rfl, hk1, hw1, hbx⟩
    simp only [Act.put, List.getElem_toArray, List.getElem_cons_zero, List.getElem_cons_succ, List.setIfInBounds_toArray, List.set_cons_zero, List.set_cons_succ]
    have K1 : Hid (Kw B v w v w1) := hk1
    have H1 : Hid _ := hw1
    have BD : Hid (Blk w1 w.heap.size #[.int .i64 k, .int .i64 c, .string s, .int .i64 l, .int .i64 r] 89 ∧ v.ownBlock ≠ some w.heap.size) := ⟨hbx, HVN.out⟩
    have q0 := hbx.cell 0
    have q1 := hbx.cell 1
    have q2 := hbx.cell 2
    have q3 := hbx.cell 3
    have q4 := hbx.cell 4
    simp only [List.getElem?_toArray, List.getElem?_cons_zero, List.getElem?_cons_succ] at q0 q1 q2 q3 q4
    clear hk1 hw1 hbx c0 c1 c2 c3 c4 cB0 HB HX1 d0 df0 d1 df1 d2 df2 d3 df3 d4 df4
    generalize w.heap.size = bx at *
    by_cases hk : k = 1
    case pos =>
      subst hk
      have hR := HC.out
      rw [cod_1 HX.out rfl] at hR
      have HR : Hid _ := hR
      clear hR
      have HP : Hid _ := fun w' h' => put_any w0 B (.slice (some ⟨b1, o1, none⟩) n ca) (nI 3 ((N : Int) + 1) 0) w' v out h' (by omega)
      go_wp2_with fail
      refine (HP.out _ H1.out).mono ?_
      rintro r2 w2 ⟨rfl, v2, hk2, h2⟩
      have K2 : Hid _ := Kw.trans K1.out hk2
      have H2 : Hid _ := h2.as (R := out ++ C) (by rw [← HR.out]; first | done | simp)
      clear hk2 h2
      go_wp2
      exact bodyPost_end (v := .tuple #[]) (by simp [results, Try.results68, go_sem]) rfl ⟨rfl, _, K2.out, H2.out⟩
    have hk1 : (k == 1) = false := by simpa using hk
    have hm1 : k ≠ 1 := hk
    clear hk
    by_cases hk : k = 6
    case pos =>
      subst hk
      have hR := HC.out
      rw [cod_6 HX.out rfl] at hR
      have HR : Hid _ := hR
      clear hR
      have HP : Hid _ := fun w' h' => put_any w0 B (.slice (some ⟨b1, o1, none⟩) n ca) (nI 4 ((N : Int) + 1) 0) w' v out h' (by omega)
      go_wp2_with fail
      refine (HP.out _ H1.out).mono ?_
      rintro r2 w2 ⟨rfl, v2, hk2, h2⟩
      have K2 : Hid _ := Kw.trans K1.out hk2
      have H2 : Hid _ := h2.as (R := out ++ C) (by rw [← HR.out]; first | done | simp)
      clear hk2 h2
      go_wp2
      exact bodyPost_end (v := .tuple #[]) (by simp [results, Try.results68, go_sem]) rfl ⟨rfl, _, K2.out, H2.out⟩
    have hk6 : (k == 6) = false := by simpa using hk
    have hm6 : k ≠ 6 := hk
    clear hk
    by_cases hk : k = 7
    case pos =>
      subst hk
      have hR := HC.out
      rw [cod_7 HX.out rfl] at hR
      have HR : Hid _ := hR
      clear hR
      have HP : Hid _ := fun w' h' => put_any w0 B (.slice (some ⟨b1, o1, none⟩) n ca) (nI 5 ((N : Int) + 1) 0) w' v out h' (by omega)
      go_wp2_with fail
      refine (HP.out _ H1.out).mono ?_
      rintro r2 w2 ⟨rfl, v2, hk2, h2⟩
      have K2 : Hid _ := Kw.trans K1.out hk2
      have H2 : Hid _ := h2.as (R := out ++ C) (by rw [← HR.out]; first | done | simp)
      clear hk2 h2
      go_wp2
      exact bodyPost_end (v := .tuple #[]) (by simp [results, Try.results68, go_sem]) rfl ⟨rfl, _, K2.out, H2.out⟩
    have hk7 : (k == 7) = false := by simpa using hk
    have hm7 : k ≠ 7 := hk
    clear hk
    by_cases hk : k = 11
    case pos =>
      subst hk
      obtain ⟨h1, h2, h3, h4, h5, h6⟩ := HTW.out (.inl rfl)
      obtain ⟨ln, rfl⟩ : ∃ ln : Nat, l = ln := ⟨l.toNat, by omega⟩
      obtain ⟨rn, rfl⟩ : ∃ rn : Nat, r = rn := ⟨r.toNat, by omega⟩
      have e1 : p - 1 = rn := by omega
      rw [e1] at h3 h4 h5
      simp only [Int.toNat_natCast] at h6
      have hR := HC.out
      rw [cod_11 HX.out rfl] at hR
      simp only [Int.toNat_natCast] at hR
      have hc := HCL.out N ln (by omega) (by omega)
      obtain ⟨C1, hC1⟩ : ∃ C, C = cod ns f N ln := ⟨_, rfl⟩
      rw [← hC1] at hc hR
      have HA : Hid _ := fun v' w' h' => HW.out ln v' out w' (by omega) (by omega) h' (by omega)
      have hA := HA.out
      rw [← HN.out, ← hC1] at hA
      have HA2 : Hid _ := hA
      have hl1 : (out ++ C1).length = N + C1.length := by rw [List.length_append, ← HN.out]
      have HB2 : Hid _ := fun v' w' h' => HW.out rn v' (out ++ C1) w' (by omega) (by omega) h' (by rw [hl1]; omega)
      have hB2 := HB2.out
      rw [hl1] at hB2
      have HB3 : Hid _ := hB2
      have HR : Hid _ := hR
      clear hR hA hB2 HA HB2 hC1 hl1 hc h1 h2 h3 h4 h5 h6 e1
      go_wp2_with fail
      refine (HA2.out _ _ H1.out).mono ?_
      rintro r2 w2 ⟨rfl, v2, hk2, h2⟩
      have K2 : Hid _ := Kw.trans K1.out hk2
      have BD2 : Hid _ := Kw.blk hk2 BD.out HNE.out
      have t4 : w2.cell? ⟨bx, 4, none⟩ = some (.int .i64 (rn : Int)) := by have := BD2.out.1.cell 4; simpa using this
      clear hk2
      go_wp2_with fail
      refine (HB3.out _ _ h2).mono ?_
      rintro r3 w3 ⟨rfl, v3, hk3, h3⟩
      have K3 : Hid _ := Kw.trans K2.out hk3
      have H3 : Hid _ := h3.as (R := out ++ C) (by rw [← HR.out]; first | done | simp)
      clear hk3 h3 t4 h2
      go_wp2
      exact bodyPost_end (v := .tuple #[]) (by simp [results, Try.results68, go_sem]) rfl ⟨rfl, _, K3.out, H3.out⟩
    have hk11 : (k == 11) = false := by simpa using hk
    have hm11 : k ≠ 11 := hk
    clear hk
    by_cases hk : k = 12
    case pos =>
      subst hk
      obtain ⟨h1, h2, h3, h4, h5, h6⟩ := HTW.out (.inr rfl)
      obtain ⟨ln, rfl⟩ : ∃ ln : Nat, l = ln := ⟨l.toNat, by omega⟩
      obtain ⟨rn, rfl⟩ : ∃ rn : Nat, r = rn := ⟨r.toNat, by omega⟩
      have e1 : p - 1 = rn := by omega
      rw [e1] at h3 h4 h5
      simp only [Int.toNat_natCast] at h6
      have hR := HC.out
      rw [cod_12 HX.out rfl] at hR
      simp only [Int.toNat_natCast] at hR
      have HE : Hid _ := writeEither_any w0 B (.slice (some ⟨b1, o1, none⟩) n ca) ns bs n f HW.out p ln rn 12 c s HPN.out HPF.out h1 (by omega) h3 h4 (by omega) h6 HCL.out v out w1 H1.out hK hbd N HN.out _ _ _ _ rfl rfl rfl rfl
      have HR : Hid _ := hR
      clear hR h1 h2 h3 h4 h5 h6 e1
      go_wp2_with fail
      refine Calls.mono HE.out ?_
      rintro r2 w2 ⟨rfl, v2, hk2, h2⟩
      have K2 : Hid _ := Kw.trans K1.out hk2
      have H2 : Hid _ := h2.as (R := out ++ C) (by rw [← HR.out]; first | done | simp)
      clear hk2 h2
      go_wp2
      exact bodyPost_end (v := .tuple #[]) (by simp [results, Try.results68, go_sem]) rfl ⟨rfl, _, K2.out, H2.out⟩
    have hk12 : (k == 12) = false := by simpa using hk
    have hm12 : k ≠ 12 := hk
    clear hk
    by_cases hk : k = 8
    case pos =>
      subst hk
      obtain ⟨h1, h2, h3⟩ := HON.out (by decide)
      obtain ⟨ln, rfl⟩ : ∃ ln : Nat, l = ln := ⟨l.toNat, by omega⟩
      simp only [Int.toNat_natCast] at h3
      have hR := HC.out
      rw [cod_8 HX.out rfl] at hR
      simp only [Int.toNat_natCast] at hR
      have hbl := HBD.out (i := ln) (by omega)
      have hc := HCL.out (N + 1) ln (by omega) (by omega)
      have HWL : Hid _ := H1.out.later ((Below.refl w1.heap.size w1).alloc (Nat.le_refl _) (.cells #[.int .i64 3, .int .i64 0, .int .i64 0, .string ⟨#[]⟩, .int .i64 0, .int .i64 0, .int .i64 (N : Int), .int .i64 0] 91))
      have HOB : Hid (OneB B v (w1.alloc (.cells #[.int .i64 3, .int .i64 0, .int .i64 0, .string ⟨#[]⟩, .int .i64 0, .int .i64 0, .int .i64 (N : Int), .int .i64 0] 91)) (.slice (some ⟨w1.heap.size, 0, none⟩) 1 1) [nI 3 N 0]) := .inr ⟨w1.heap.size, 1, nI 3 N 0, rfl, rfl, by have := H1.out.blk.lt; intro e; omega, Blk.new w1 _ _, H1.out.new⟩
      have HE : Hid _ := writeOrNot_any w0 B (.slice (some ⟨b1, o1, none⟩) n ca) ns bs n f HW.out ln (by omega) (by omega) v out (w1.alloc (.cells #[.int .i64 3, .int .i64 0, .int .i64 0, .string ⟨#[]⟩, .int .i64 0, .int .i64 0, .int .i64 (N : Int), .int .i64 0] 91)) HWL.out (by omega) hbl.2 N HN.out _ [nI 3 N 0] rfl hc _ HOB.out _ _ rfl rfl
      have KA : Hid _ := Kw.trans K1.out (Kw.of_below ((Below.refl w1.heap.size w1).alloc (Nat.le_refl _) (.cells #[.int .i64 3, .int .i64 0, .int .i64 0, .string ⟨#[]⟩, .int .i64 0, .int .i64 0, .int .i64 (N : Int), .int .i64 0] 91)) B v)
      have HR : Hid _ := hR
      clear hR h1 h2 h3 hc hbl
      go_wp2_with fail
      refine Calls.mono HE.out ?_
      rintro r2 w2 ⟨rfl, v2, hk2, h2⟩
      have K2 : Hid _ := Kw.trans KA.out hk2
      have H2 : Hid _ := h2.as (R := out ++ C) (by rw [← HR.out]; first | done | simp)
      clear hk2 h2
      go_wp2
      exact bodyPost_end (v := .tuple #[]) (by simp [results, Try.results68, go_sem]) rfl ⟨rfl, _, K2.out, H2.out⟩
    have hk8 : (k == 8) = false := by simpa using hk
    have hm8 : k ≠ 8 := hk
    clear hk
    by_cases hk : k = 9
    case pos =>
      subst hk
      obtain ⟨h1, h2, h3⟩ := HON.out (by decide)
      obtain ⟨ln, rfl⟩ : ∃ ln : Nat, l = ln := ⟨l.toNat, by omega⟩
      simp only [Int.toNat_natCast] at h3
      have hR := HC.out
      rw [cod_9 HX.out rfl] at hR
      simp only [Int.toNat_natCast] at hR
      have hbl := HBD.out (i := ln) (by omega)
      have hc := HCL.out N ln (by omega) (by omega)
      obtain ⟨C1, hC1⟩ : ∃ C, C = cod ns f N ln := ⟨_, rfl⟩
      rw [← hC1] at hc hR
      have HA : Hid _ := fun v' w' h' => HW.out ln v' out w' (by omega) (by omega) h' (by omega)
      have hA := HA.out
      rw [← HN.out, ← hC1] at hA
      have HA2 : Hid _ := hA
      obtain ⟨J, hJ⟩ : ∃ J, J = N + C1.length := ⟨_, rfl⟩
      have hl1 : (out ++ C1).length = J := by rw [List.length_append, ← HN.out, hJ]
      have HX2 : Hid _ := fun v' w' h' => next_any w0 B (.slice (some ⟨b1, o1, none⟩) n ca) w' v' (out ++ C1) h' (by omega)
      have hX2 := HX2.out
      rw [hl1] at hX2
      have HX3 : Hid _ := hX2
      rw [← hJ] at hR
      have hJ9 : J ≤ 4000 := by omega
      have HP : Hid _ := fun v' w' h' => put_any w0 B (.slice (some ⟨b1, o1, none⟩) n ca) (nI 2 (N : Int) ((J : Int) + 1)) w' v' (out ++ C1) h' (by omega)
      have HR : Hid _ := hR
      clear hR hA hX2 HA HX2 hC1 hl1 hc h1 h2 h3 hbl hJ
      go_wp2_with fail
      refine (HA2.out _ _ H1.out).mono ?_
      rintro r2 w2 ⟨rfl, v2, hk2, h2⟩
      have K2 : Hid _ := Kw.trans K1.out hk2
      have H2 : Hid _ := h2
      clear hk2 h2
      go_wp2_with fail
      refine (HX3.out _ _ H2.out).mono ?_
      rintro r1 w3 ⟨rfl, hw3⟩
      have hw4 := hw3.symm
      subst hw4
      clear hw3
      go_wp2_with fail
      refine (HP.out _ _ H2.out).mono ?_
      rintro r3 w3 ⟨rfl, v3, hk3, h3⟩
      have K3 : Hid _ := Kw.trans K2.out hk3
      have H3 : Hid _ := h3.as (R := out ++ C) (by rw [← HR.out]; first | done | simp)
      clear hk3 h3
      go_wp2
      exact bodyPost_end (v := .tuple #[]) (by simp [results, Try.results68, go_sem]) rfl ⟨rfl, _, K3.out, H3.out⟩
    have hk9 : (k == 9) = false := by simpa using hk
    have hm9 : k ≠ 9 := hk
    clear hk
    by_cases hk : k = 10
    case pos =>
      subst hk
      obtain ⟨h1, h2, h3⟩ := HON.out (by decide)
      obtain ⟨ln, rfl⟩ : ∃ ln : Nat, l = ln := ⟨l.toNat, by omega⟩
      simp only [Int.toNat_natCast] at h3
      have hR := HC.out
      rw [cod_10 HX.out rfl] at hR
      simp only [Int.toNat_natCast] at hR
      have hbl := HBD.out (i := ln) (by omega)
      have hc := HCL.out (N + 1) ln (by omega) (by omega)
      have HE : Hid _ := writeOrNot_any w0 B (.slice (some ⟨b1, o1, none⟩) n ca) ns bs n f HW.out ln (by omega) (by omega) v out w1 H1.out (by omega) hbl.2 N HN.out _ [] rfl hc _ (.inl ⟨rfl, rfl⟩) _ _ rfl rfl
      have HR : Hid _ := hR
      clear hR h1 h2 h3 hc hbl
      go_wp2_with fail
      refine Calls.mono HE.out ?_
      rintro r2 w2 ⟨rfl, v2, hk2, h2⟩
      have K2 : Hid _ := Kw.trans K1.out hk2
      have H2 : Hid _ := h2.as (R := out ++ C) (by rw [← HR.out]; first | done | simp)
      clear hk2 h2
      go_wp2
      exact bodyPost_end (v := .tuple #[]) (by simp [results, Try.results68, go_sem]) rfl ⟨rfl, _, K2.out, H2.out⟩
    have hk10 : (k == 10) = false := by simpa using hk
    have hm10 : k ≠ 10 := hk
    clear hk
    have HR : Hid _ := (cod_b HX.out (by simp only; omega)).symm.trans HC.out
    have HP : Hid _ := fun w' h' => put_any w0 B (.slice (some ⟨b1, o1, none⟩) n ca) (⟨1, k, c, s, l, r, (N : Int) + 1, 0⟩ : In) w' v out h' (by omega)
    go_wp2_with fail
    refine (HP.out _ H1.out).mono ?_
    rintro r2 w2 ⟨rfl, v2, hk2, h2⟩
    have K2 : Hid _ := Kw.trans K1.out hk2
    have H2 : Hid _ := h2.as (R := out ++ C) (by rw [← HR.out]; first | done | simp)
    clear hk2 h2
    go_wp2
    exact bodyPost_end (v := .tuple #[]) (by simp [results, Try.results68, go_sem]) rfl ⟨rfl, _, K2.out, H2.out⟩

theorem write_any (w0 : World) (B : Nat) (a : Option Addr) (n ca : Nat) (ns : List Nd) (ha : RdR ndE 5 w0 a n ns) (bs : List Int) (hb : Beg ns n bs) : ∀ f, WOK w0 B (.slice a n ca) ns bs n f
  | 0 => fun p v out w hp hf => by omega
  | f + 1 => write_step w0 B a n ca ns ha bs hb f (write_any w0 B a n ca ns ha bs hb f)
end Go.Proofs.Ytjkipdamohljpaa

namespace Go.Proofs.Ytjkipdamohljpaa
open Go.RowKit
set_option linter.unusedVariables false
set_option linter.unusedSimpArgs false

set_option maxHeartbeats 3200000 in
set_option maxRecDepth 20000 in
theorem implCompilePattern_any (a : Option Addr) (n ca : Nat) (ns : List Nd) (w : World) (ha : RdR ndE 5 w a n ns) (hs : ndSum ns ≤ 1048576) (h1 : n ≤ 1048576) :
    Calls Try.prog 28 #[.slice a n ca] w fun r w' => ∃ v, r = .returned (.agg #[.int .i64 (nodesFault ns), v]) ∧ RowS inE 8 91 w' w.heap.size w'.heap.size v (cpRes ns).length (cpRes ns) ∧ Below w.heap.size w w' := by
  have CF := fun w' h' => implNodesFault_any a n ca ns w' h' hs h1
  have B1 : ∀ o, Below w.heap.size w (w.alloc o) := fun o => (Below.refl _ _).alloc (Nat.le_refl _) o
  by_cases hf : nodesFault ns = 0
  case neg =>
    have e0 : cpRes ns = [] := by unfold cpRes; rw [if_neg hf]
    rw [e0]
    generalize nodesFault ns = P at *
    have hf' : (P == 0) = false := by simpa using hf
    have HS : Hid _ := CF
    clear CF e0
    go_enter Try.func28, Try.ntmps28
    go_wp2_with fail
    refine (HS.out _ (ha.below (B1 _))).mono ?_
    rintro r w1 ⟨rfl, hb1⟩
    have d0 : w1.cell? ⟨w.heap.size, 0, none⟩ = some (.int .i64 0) := cell_later hb1 (by simp [go_sem])
    have d1 : w1.cell? ⟨w.heap.size, 1, none⟩ = some (.slice none 0 0) := cell_later hb1 (by simp [go_sem])
    have f0 : w1.frozen? ⟨w.heap.size, 0, none⟩ = false := (hb1.frozen (p := ⟨w.heap.size, 0, none⟩) (by simp)).trans (by simp [go_sem])
    have f1 : w1.frozen? ⟨w.heap.size, 1, none⟩ = false := (hb1.frozen (p := ⟨w.heap.size, 1, none⟩) (by simp)).trans (by simp [go_sem])
    have hb01 := (B1 _).trans (hb1.mono (B1 _).size)
    clear hb1
    go_wp2
    refine bodyPost_ret (v := .agg #[.int .i64 P, .slice none 0 0]) (by simp [results, Try.results28, go_sem, d0, d1]) rfl ⟨_, rfl, RowS.nil _ _ _ _ _ _, ?_⟩
    first | exact (hb01.setCell (Nat.le_refl _) _).setCell (Nat.le_refl _) _ | exact hb01.setCell (Nat.le_refl _) _
  have e0 : cpRes ns = comp ns := by unfold cpRes; rw [if_pos hf]
  rw [e0]
  obtain ⟨g1, g2, bs, hb⟩ := tree_of hf
  have hlen := ha.1
  rw [hlen] at hb g1 g2
  have hcl := cod_len hb hlen.symm (n + 1) 0 (n - 1) (by omega) (by omega)
  have hbd := hb.bd (by omega) (i := n - 1) (by omega)
  have e1 : ((n - 1 : Nat) : Int) = (n : Int) - 1 := by omega
  have hcomp : comp ns = cod ns (n + 1) 0 (n - 1) ++ [nI 6 0 0] := by unfold comp; rw [hlen]
  rw [hcomp]
  have hwo : ∀ (w1 : World) (B : Nat), RdR ndE 5 w1 a n ns → ∀ w', Wr w1 B (.slice a n ca) w' (.slice none 0 0) [] → Calls Try.prog 68 #[.pointer (some ⟨B, 0, none⟩), .int .i64 ((n : Int) - 1)] w' fun r w'' => r = .returned (.tuple #[]) ∧ ∃ v', Kw B (.slice none 0 0) w' v' w'' ∧ Wr w1 B (.slice a n ca) w'' v' (cod ns (n + 1) 0 (n - 1)) := by
    intro w1 B h' w' hw
    have := write_any w1 B a n ca ns h' bs hb (n + 1) (n - 1) (.slice none 0 0) [] w' (by omega) (by omega) hw (by simp only [List.length_nil]; omega)
    simp only [List.nil_append, List.length_nil] at this
    rw [e1] at this
    exact this
  generalize cod ns (n + 1) 0 (n - 1) = C at hcl hwo ⊢
  have hC9 : C.length ≤ 100 := by omega
  have hpu := fun (w1 : World) (B : Nat) (w' : World) (v' : Value) h' => put_any w1 B (.slice a n ca) (nI 6 0 0) w' v' C h' (by omega)
  obtain ⟨L, hL⟩ : ∃ L, C ++ [nI 6 0 0] = L := ⟨_, rfl⟩
  have hL9 : L.length ≤ 1000 := by rw [← hL, List.length_append]; simp only [List.length_cons, List.length_nil]; omega
  rw [hL] at hpu ⊢
  have HWO : Hid _ := hwo
  have HPU : Hid _ := hpu
  rw [hf] at CF ⊢
  have HS : Hid _ := CF
  clear CF e0 hf hwo hpu hL hcl hC9 hcomp e1 hbd hb hlen
  go_enter Try.func28, Try.ntmps28
  go_wp2_with fail
  refine (HS.out _ (ha.below (B1 _))).mono ?_
  rintro r w1 ⟨rfl, hb1⟩
  have d0 : w1.cell? ⟨w.heap.size, 0, none⟩ = some (.int .i64 0) := cell_later hb1 (by simp [go_sem])
  have d1 : w1.cell? ⟨w.heap.size, 1, none⟩ = some (.slice none 0 0) := cell_later hb1 (by simp [go_sem])
  have f0 : w1.frozen? ⟨w.heap.size, 0, none⟩ = false := (hb1.frozen (p := ⟨w.heap.size, 0, none⟩) (by simp)).trans (by simp [go_sem])
  have f1 : w1.frozen? ⟨w.heap.size, 1, none⟩ = false := (hb1.frozen (p := ⟨w.heap.size, 1, none⟩) (by simp)).trans (by simp [go_sem])
  have z1 : w.heap.size < w1.heap.size := by have := hb1.size; simp at this; omega
  have hb01 := (B1 _).trans (hb1.mono (B1 _).size)
  clear hb1
  have hW1 : Wr w1 w1.heap.size (.slice a n ca) (w1.alloc (.cells #[.slice a n ca, .slice none 0 0] 100)) (.slice none 0 0) [] :=
    ⟨Blk.new w1 _ _, OwnR.nil _ _ _ _ _, (Below.refl _ _).alloc (Nat.le_refl _) _, Nat.le_refl _⟩
  have HW1 : Hid _ := hW1
  clear hW1
  go_wp2_with fail
  refine (HWO.out w1 w1.heap.size (ha.below hb01) _ HW1.out).mono ?_
  rintro r w2 ⟨rfl, v2, -, h2⟩
  go_wp2_with fail
  refine (HPU.out _ _ _ _ h2).mono ?_
  rintro r w3 ⟨rfl, v3, -, h3⟩
  have hb3 := h3.below
  replace d0 := cell_later hb3 d0
  replace d1 := cell_later hb3 d1
  replace f0 : w3.frozen? ⟨w.heap.size, 0, none⟩ = false := (hb3.frozen (p := ⟨w.heap.size, 0, none⟩) (by exact z1)).trans f0
  replace f1 : w3.frozen? ⟨w.heap.size, 1, none⟩ = false := (hb3.frozen (p := ⟨w.heap.size, 1, none⟩) (by exact z1)).trans f1
  have hb02 := hb01.trans (hb3.mono hb01.size)
  have hz2 : w1.heap.size < w3.heap.size := h3.blk.lt
  obtain ⟨va, vc, hv, -, -, -⟩ := h3.own.rd inE_len
  subst hv
  have k1 := h3.cell1
  have HO3 : Hid (OwnR inE 8 91 w3 (w1.heap.size + 1) (.slice va L.length vc) L.length L) := h3.own
  clear hb3 h2 h3
  go_wp2
  have S : ∀ (W : World) (i : Nat) (u : Value), RowS inE 8 91 W (w1.heap.size + 1) w3.heap.size (.slice va L.length vc) L.length L → RowS inE 8 91 (W.setCell ⟨w.heap.size, i, none⟩ u) (w1.heap.size + 1) w3.heap.size (.slice va L.length vc) L.length L := fun W i u h => h.chg (Chg.one (set_grown W w.heap.size i u)) (by omega)
  refine bodyPost_ret (v := .agg #[.int .i64 0, .slice va L.length vc]) (by simp [results, Try.results28, go_sem, d0, d1]) rfl ⟨_, rfl, ?_, ?_⟩
  · refine RowS.mono (S _ _ _ (S _ _ _ (RowS.of HO3.out))) (by omega) (by simp [World.setCell])
  · exact (hb02.setCell (Nat.le_refl _) _).setCell (Nat.le_refl _) _
end Go.Proofs.Ytjkipdamohljpaa
