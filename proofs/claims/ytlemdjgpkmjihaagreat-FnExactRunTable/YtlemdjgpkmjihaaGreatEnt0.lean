/-
  Chapter 8: what the specification's copies of a table want.
-/
import Derived.Test.YtlemdjgpkmjihaaGreatTabA
import Derived.Test.YtlemdjgpkmjihaaGreatHlpX
import Derived.Test.YtlemdjgpkmjihaaGreatAppend
namespace Go.Proofs.YtlemdjgpkmjihaaGreat
open Go.RowKit
set_option linter.unusedVariables false
set_option linter.unusedSimpArgs false

/-- Rows of two types are two blocks. -/
theorem own_ne {w : World} {b b' s s' n n' : Nat} {e e' : TypeId} {v v' : Value} {xs xs' : List Value} (h : w.ownsRow b e s v n xs) (h' : w.ownsRow b' e' s' v' n' xs') (hne : e ≠ e') : ∀ j, v'.ownBlock = some j → v.ownBlock ≠ some j := by
  intro j hj hv
  rcases h.2 with ⟨rfl, _⟩ | ⟨g, cap, cur, rfl, _, h1, _⟩
  · simp [Value.ownBlock] at hv
  rcases h'.2 with ⟨rfl, _⟩ | ⟨g', cap', cur', rfl, _, h2, _⟩
  · simp [Value.ownBlock] at hj
  simp [Value.ownBlock] at hv hj
  subst hv
  subst hj
  rw [h1] at h2
  simp at h2
  exact hne h2.2

theorem rdr_cells {w : World} {ad : Addr} {m : Nat} {ys : List L2} (hr : RdR lineE 2 w (some ad) m ys) : ∀ j u, (ys.flatMap lineE)[j]? = some u → w.cell? (ad.add j) = some u := by
  intro j u hu
  have hlen : (ys.flatMap lineE).length = m * 2 := by rw [← hr.1]; exact length_flatMap' lineE 2 lineE_len ys
  have hj : j < m * 2 := by rw [← hlen]; exact (List.getElem?_eq_some_iff.1 hu).1
  obtain ⟨b, off, x, ha, hx, hc⟩ := hr.at (show j / 2 < m by omega)
  simp only [Option.some.injEq] at ha
  subst ha
  have hu2 : (lineE x)[j % 2]? = some u := by
    have := getElem?_flatMap lineE 2 lineE_len ys (j / 2) (j % 2) x hx (by omega)
    rw [← this, ← hu]
    congr 1
    omega
  rw [Addr.add_lit, ← hc _ _ hu2]
  congr 2
  omega

theorem arcs_one (ys : List L2) : ∀ u ∈ ys.flatMap lineE, u.oneCell' = true := by
  intro u hu
  obtain ⟨y, _, hy⟩ := List.mem_flatMap.1 hu
  simp [lineE] at hy
  rcases hy with rfl | rfl <;> rfl

/-- Arcs behind a row of arcs. -/
theorem wp_appArcs {w : World} {o : Oper} {a : Act} {K : Act → World → Prop} {Q : Exit → Act → World → Prop} (s x : Operand) (ho : o.op = .call { callee := .builtin .append, args := #[s, x], argTypes := #[89, 89] })
    (base : Nat) (v : Value) (n : Nat) (xs : List L2) (hs : a.eval s = v) (hown : OwnR lineE 2 99 w base v n xs)
    (sa : Option Addr) (m c : Nat) (ys : List L2) (hx : a.eval x = .slice sa m c) (hr : RdR lineE 2 w sa m ys) (h63 : n + m ≤ 2097152) (hbase : base ≤ w.heap.size)
    (h : ∀ v' w', OwnR lineE 2 99 w' base v' (n + m) (xs ++ ys) → w.grownBy w' v.ownBlock → K (a.put o.dst v') w') : o.wp Tryz.prog a w K Q := by
  obtain ⟨i0, hi, hz0, hz1, hz2⟩ := info_parts infoArc
  cases sa with
  | none =>
    have hm : m = 0 := by
      rcases hr.2 with h0 | ⟨b, off, ha, _⟩
      · exact h0
      · cases ha
    subst hm
    obtain rfl : ys = [] := List.eq_nil_of_length_eq_zero hr.1
    have hrun : (Builtin.append_ #[89, 89] o.type #[v, .slice none 0 c]).run Tryz.prog w = .ok v w := by
      rcases hown.2.2 with ⟨rfl, rfl⟩ | ⟨g, cap, cur, rfl, _, _, hnc, _⟩
      · simp [Builtin.append_, run_underlying Tryz.underlying89, sizeOf, typeInfo, hi, Builtin.lenOf, Builtin.firstCells]
      · simp [Builtin.append_, run_underlying Tryz.underlying89, sizeOf, typeInfo, hi, Builtin.lenOf, Builtin.firstCells, hnc, storeCells]
    unfold Oper.wp
    simp [execOp, ho, resolve, invoke, builtin, hs, hx, hrun, Result.andThen]
    exact h v w (by simpa using hown) (World.grownBy.refl _ _)
  | some ad =>
    refine wp_append_own w s x 89 ho base 99 i0 _ 2 16 Tryz.underlying89 hi hz0 hz1 hz2 rfl (by decide) v n (xs.flatMap lineE) hs hown.2 ad m c (ys.flatMap lineE) hx (by rw [length_flatMap' lineE 2 lineE_len, hr.1]) (rdr_cells hr) (arcs_one ys) (by unfold maxLen; omega) (by omega) hbase ?_
    intro v' w' h1 h2 _
    exact h v' w' ⟨by rw [List.length_append, hown.1, hr.1], by rw [List.flatMap_append]; exact h1⟩ h2

/-- One state behind a row of states. -/
theorem wp_appSt {w : World} {o : Oper} {a : Act} {K : Act → World → Prop} {Q : Exit → Act → World → Prop} (s x : Operand)
    (ho : o.op = .call { callee := .builtin .append, args := #[s, x], argTypes := #[28, 28] }) (base : Nat) (v : Value) (n : Nat) (cs : List Value) (hs : a.eval s = v) (hown : w.ownsRow base 91 2 v n cs)
    (b c : Nat) (u1 u2 : Value) (h1 : u1.oneCell' = true) (h2 : u2.oneCell' = true) (hx : a.eval x = .slice (some ⟨b, 0, none⟩) 1 c) (c0 : w.cell? ⟨b, 0, none⟩ = some u1) (c1 : w.cell? ⟨b, 1, none⟩ = some u2) (hn : n ≤ 1048576) (hbase : base ≤ w.heap.size)
    (h : ∀ v' w', w'.ownsRow base 91 2 v' (n + 1) (cs ++ [u1, u2]) → w.grownBy w' v.ownBlock → K (a.put o.dst v') w') : o.wp Tryz.prog a w K Q := by
  obtain ⟨i0, hi, hz0, hz1, hz2⟩ := info_parts infoSt
  refine wp_append_own w s x 28 ho base 91 i0 _ 2 48 Tryz.underlying28 hi hz0 hz1 hz2 rfl (by decide) v n cs hs hown ⟨b, 0, none⟩ 1 c [u1, u2] hx rfl (fun j u hu => ?_) (fun u hu => ?_) (by unfold maxLen; omega) (by omega) hbase ?_
  · rw [Addr.add_lit, Nat.zero_add]
    rcases j with _ | _ | j
    · simp at hu; rw [← hu]; exact c0
    · simp at hu; rw [← hu]; exact c1
    · simp at hu
  · simp at hu
    rcases hu with rfl | rfl
    · exact h1
    · exact h2
  · intro v' w' h1 h2 _
    exact h v' w' h1 h2
theorem own_same {w : World} {base base' : Nat} {e : TypeId} {size n : Nat} {v : Value} {xs ys : List Value} (h : w.ownsRow base e size v n xs) (k : w.ownsRow base' e size v n ys) : xs = ys := by
  rcases h.2 with ⟨rfl, rfl⟩ | ⟨g, cap, cur, rfl, _, h1, _, _, _, h2⟩
  · have a1 := h.1
    have a2 := k.1
    simp at a1 a2
    rw [a1, a2]
  · rcases k.2 with ⟨e1, _⟩ | ⟨g', cap', cur', e1, _, k1, _, _, _, k2⟩
    · simp at e1
    · simp at e1
      rw [e1.1, k1] at h1
      simp at h1
      rw [← h2, ← k2, h1]

/-- A row of states grows by one whose two rows lie behind it. -/
theorem tab_snoc {w w' : World} {lo hi n : Nat} {v v' v1 v2 : Value} {ts : List St} {ss : List Int} {az : List L2} {cs : List Value} (h : RowT false 91 2 99 w lo hi v n ts)
    (oI : Own .i64 2 w hi v1 ss.length ss) (oA : OwnR lineE 2 99 w hi v2 az.length az) (hus : w.ownsRow lo 91 2 v n cs) (ho : w'.ownsRow lo 91 2 v' (n + 1) (cs ++ [v1, v2])) (hg : w.grownBy w' v.ownBlock) (hlo : lo ≤ hi) :
    RowT false 91 2 99 w' lo w'.heap.size v' (n + 1) (ts ++ [(ss, az)]) := by
  have hlt : ∀ j, v.ownBlock = some j → j < hi := by obtain ⟨us, q1, -⟩ := h; exact q1.2
  have hel : StEl false 2 99 w hi w.heap.size ((v1, v1.ownBlock), (v2, v2.ownBlock)) (ss, az) := ⟨SubI.of (RowI.of oI), SubS.of (RowS.of oA)⟩
  have hbk : ∀ b ∈ suB ((v1, v1.ownBlock), (v2, v2.ownBlock)), hi ≤ b := by
    intro b hb
    rcases (suB_mem _ _).1 hb with hb | hb
    · exact (oI.lt b hb).1
    · exact (oA.lt b hb).1
  refine RowN.snoc (tabOk false) (hi' := w.heap.size) h (ElOk.mono (tabOk false) hel hlo (Nat.le_refl _)) hbk (fun g hg2 hm => by have := hlt g hg2; have := hbk g hm; omega) (fun us' h' => ?_) hg
  rw [own_same h' hus]
  exact ho
end Go.Proofs.YtlemdjgpkmjihaaGreat
