/-
  Bytes put behind an owned row: where the row lies behind it. It speaks of no program.
-/
import Derived.Test.YtckkkhabjfbngaaAppend
import Derived.Deep.DeepAppendRoom
namespace Go.Proofs.Ytckkkhabjfbngaa
open Go.RowKit
set_option linter.unusedVariables false

theorem wp_append_new {P : Program} {w : World} {o : Oper} {a : Act} {K : Act → World → Prop} {Q : Exit → Act → World → Prop} (s x : Operand) (t : TypeId)
    (ho : o.op = .call { callee := .builtin .append, args := #[s, x], argTypes := #[t, t] })
    (k : IntKind) (base : Nat) (e : TypeId) (i : TypeInfo) (bytes : Nat) (ht : P.underlying t = some (.slice e)) (hi : P.info? e = some i) (hz : i.zero = some (.int k 0))
    (hsize : i.size = 1) (hby : i.bytes = bytes) (v : Value) (n : Nat) (xs : List Int) (hs : a.eval s = v) (hown : Own k e w base v n xs)
    (sa : Option Addr) (m c : Nat) (ys : List Int) (hx : a.eval x = .slice sa m c) (hr : Rd k w sa m ys)
    (h63 : n + m ≤ maxLen) (hbytes : (n + m) * bytes ≤ 140737488355328) (hbase : base ≤ w.heap.size)
    (h : ∀ v' w', Own k e w' base v' (n + m) (xs ++ ys) → w.grownBy w' v.ownBlock → (v'.ownBlock = v.ownBlock ∨ ∀ j, v'.ownBlock = some j → w.heap.size ≤ j) → K (a.put o.dst v') w') : o.wp P a w K Q := by
  cases sa with
  | none =>
    have hm : m = 0 := by
      rcases hr.2 with h0 | ⟨b, off, ha, _⟩
      · exact h0
      · cases ha
    subst hm
    obtain rfl : ys = [] := List.eq_nil_of_length_eq_zero hr.1
    have hrun : (Builtin.append_ #[t, t] o.type #[v, .slice none 0 c]).run P w = .ok v w := by
      rcases hown.2 with ⟨rfl, rfl⟩ | ⟨g, cap, cur, rfl, _, _, hnc, _⟩
      · simp [Builtin.append_, run_underlying ht, sizeOf, typeInfo, hi, Builtin.lenOf, Builtin.firstCells]
      · simp [Builtin.append_, run_underlying ht, sizeOf, typeInfo, hi, Builtin.lenOf, Builtin.firstCells, hnc, storeCells]
    unfold Oper.wp
    simp [execOp, ho, resolve, invoke, builtin, hs, hx, hrun, Result.andThen]
    exact h v w (by simpa using hown) (World.grownBy.refl _ _) (.inl rfl)
  | some ad =>
    have key : ∃ v' w', (Builtin.append_ #[t, t] o.type #[v, .slice (some ad) m c]).run P w = .ok v' w' ∧ Own k e w' base v' (n + m) (xs ++ ys) ∧ w.grownBy w' v.ownBlock ∧ (v'.ownBlock = v.ownBlock ∨ ∀ j, v'.ownBlock = some j → w.heap.size ≤ j) := by
      have hl : (ys.map (Value.int k)).length = m * 1 := by simp [hr.1]
      rcases hown.2 with ⟨rfl, rfl⟩ | ⟨g, cap, cur, rfl, hbg, hg, hnc, hcm, hcs, htake⟩
      · have hx0 : xs = [] := List.eq_nil_of_length_eq_zero (hown.len)
        subst hx0
        obtain ⟨v', w', h1, h2, h3, -⟩ := run_append_own (P := P) w w.heap.size t o.type e i (.int k 0) 1 bytes ht hi hz hsize hby rfl (by decide) (.slice none 0 0) 0 [] (World.ownsRow_nil _ _ _ _) ad m c (ys.map (Value.int k)) hl (rd_cells hr) (ints_one k ys) h63 hbytes (Nat.le_refl _)
        have h2' : Own k e w' w.heap.size v' (0 + m) ([] ++ ys) := by unfold Own; rw [List.map_append]; exact h2
        exact ⟨v', w', h1, h2'.up hbase, h3, .inr fun j hj => (h2'.lt j hj).1⟩
      · by_cases hroom : n + m ≤ cap
        · obtain ⟨w', h1, h2, h3⟩ := run_append_own_spare (P := P) w base t o.type e i 1 ht hi hsize g n cap (xs.map (Value.int k)) hown ad m c (ys.map (Value.int k)) hl (rd_cells hr) (ints_one k ys) hroom
          exact ⟨_, w', h1, by unfold Own; rw [List.map_append]; exact h2, h3, .inl rfl⟩
        · obtain ⟨v', w', h1, h2, h3, -⟩ := run_append_own (P := P) w base t o.type e i (.int k 0) 1 bytes ht hi hz hsize hby rfl (by decide) _ n (xs.map (Value.int k)) hown ad m c (ys.map (Value.int k)) hl (rd_cells hr) (ints_one k ys) h63 hbytes hbase
          have hsmall : n + m ≤ 9223372036854775807 := by simp only [maxLen] at h63; omega
          have holds : ∀ j u, (xs.map (Value.int k))[j]? = some u → w.cell? ((⟨g, 0, none⟩ : Addr).add j) = some u := World.ownsRow.cells (g := g) hown rfl
          have h4 := run_append_grow (P := P) w t o.type e i (.int k 0) ht hi hz ⟨g, 0, none⟩ n cap (xs.map (Value.int k)) (by rw [hsize]; exact hown.1) holds ad m c (ys.map (Value.int k)) (by rw [hsize]; exact hl) (rd_cells hr) (by omega) (by omega) (growslice_fits (by omega) (by rw [hby]; exact hbytes))
          rw [h1] at h4
          cases h4
          exact ⟨_, _, h1, by unfold Own; rw [List.map_append]; exact h2, h3, .inr fun j hj => by simp [Value.ownBlock] at hj; omega⟩
    obtain ⟨v', w', hrun, h2, h3, h4⟩ := key
    unfold Oper.wp execOp
    simp only [ho, resolve, invoke, builtin, Sem.run_bind, Sem.run_pure, Result.andThen_ok, List.map_toArray, List.map_cons, List.map_nil, hs, hx, hrun]
    exact h v' w' h2 h3 h4

theorem wpList_append_new {P : Program} {w : World} {ops : Array Oper} {rest : List Oper} {o : Oper} {a : Act} {Q : Exit → Act → World → Prop} (hgd : o.guard = none) (s x : Operand) (t : TypeId)
    (ho : o.op = .call { callee := .builtin .append, args := #[s, x], argTypes := #[t, t] })
    (k : IntKind) (base : Nat) (e : TypeId) (i : TypeInfo) (bytes : Nat) (ht : P.underlying t = some (.slice e)) (hi : P.info? e = some i) (hz : i.zero = some (.int k 0))
    (hsize : i.size = 1) (hby : i.bytes = bytes) (v : Value) (n : Nat) (xs : List Int) (hs : a.eval s = v) (hown : Own k e w base v n xs)
    (sa : Option Addr) (m c : Nat) (ys : List Int) (hx : a.eval x = .slice sa m c) (hr : Rd k w sa m ys)
    (h63 : n + m ≤ maxLen) (hbytes : (n + m) * bytes ≤ 140737488355328) (hbase : base ≤ w.heap.size)
    (h : ∀ v' w', Own k e w' base v' (n + m) (xs ++ ys) → w.grownBy w' v.ownBlock → (v'.ownBlock = v.ownBlock ∨ ∀ j, v'.ownBlock = some j → w.heap.size ≤ j) → wpList P ops Q rest (a.put o.dst v') w') : wpList P ops Q (o :: rest) a w :=
  wpList_plain hgd fun K hK => wp_append_new s x t ho k base e i bytes ht hi hz hsize hby v n xs hs hown sa m c ys hx hr h63 hbytes hbase fun v' w' h1 h2 h3 => hK _ _ (h v' w' h1 h2 h3)
end Go.Proofs.Ytckkkhabjfbngaa
