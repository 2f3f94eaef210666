/-
  DrpM, Drp1, Drp2, Drp3, Drp4, Drp5 in one text.
-/
import Derived.Laws.AppendOwn
import Derived.Deep.RegionHeld3
import Derived.Deep.DeepAppendRoom
import Derived.OwnWalk
import Derived.Laws.MakeOwn
import Derived.Test.YtocophekfbhfbaaNodeFA
import Derived.Test.YtocophekfbhfbaaBox
import Derived.Test.YtocophekfbhfbaaDrawL
import Derived.Test.YtocophekfbhfbaaNode5
import Derived.Test.YtocophekfbhfbaaEmit2
import Derived.Test.YtocophekfbhfbaaSetA
import Derived.Test.YtocophekfbhfbaaLater
namespace Go.Proofs.Ytocophekfbhfbaa
set_option linter.unusedVariables false
set_option linter.unusedSimpArgs false

theorem Beg.more {X Z : List Nd} {k : Nat} {bs : List Int} (h : Beg X k bs) (hk : k ≤ X.length) : Beg (X ++ Z) k bs :=
  ⟨h.len, fun i n hi hx => h.at_ i n hi (by rw [List.getElem?_append_left (by omega)] at hx; exact hx)⟩

/-- One tree more: its root is the last node. -/
structure Tr (X : List Nd) (bs : List Int) (X' : List Nd) (bs' : List Int) : Prop where
  beg : Beg X' X'.length bs'
  lt : X.length < X'.length
  keep : ∀ j, j < X.length → bs'.getD j 0 = bs.getD j 0
  root : bs'.getD (X'.length - 1) 0 = X.length

theorem getD_snoc {bs : List Int} {x : Int} {n : Nat} (h : bs.length = n) : (bs ++ [x]).getD n 0 = x := by
  subst h
  rw [List.getD_eq_getElem?_getD, List.getElem?_append_right (Nat.le_refl _)]; simp
theorem getD_left {bs cs : List Int} {j : Nat} (h : j < bs.length) : (bs ++ cs).getD j 0 = bs.getD j 0 := by
  rw [List.getD_eq_getElem?_getD, List.getElem?_append_left h, ← List.getD_eq_getElem?_getD]

theorem Tr.snoc {X X1 : List Nd} {bs b1 : List Int} {n : Nd} (h1 : Beg X1 X1.length b1) (hX : X.length ≤ X1.length) (hk : ∀ j, j < X.length → b1.getD j 0 = bs.getD j 0) (hf : FormP n) (hr : rangeB n = true) (hb : Go.Proofs.Ytocophekfbhfbaa.beg b1 n = X.length) :
    Tr X bs (X1 ++ [n]) (b1 ++ [(X.length : Int)]) := by
  have hl := h1.len
  have hB : Beg (X1 ++ [n]) X1.length b1 := h1.more (Nat.le_refl _)
  have hS := hB.succ (n := n) (by simp) hf hr (by rw [hb]; omega)
  rw [hb] at hS
  refine ⟨by rw [List.length_append]; exact hS, by simp; omega, fun j hj => ?_, ?_⟩
  · rw [getD_left (by omega)]; exact hk j hj
  · rw [List.length_append]; exact getD_snoc hl

theorem Tr.leaf {X : List Nd} {bs : List Int} {n : Nd} (h : Beg X X.length bs) (hf : FormP n) (hr : rangeB n = true) (hk : n.k ≤ 7) : Tr X bs (X ++ [n]) (bs ++ [(X.length : Int)]) :=
  Tr.snoc h (Nat.le_refl _) (fun _ _ => rfl) hf hr (by unfold Go.Proofs.Ytocophekfbhfbaa.beg; rw [if_neg (by omega), if_neg (by omega), h.len])

theorem Tr.one {X X1 : List Nd} {bs b1 : List Int} {n : Nd} (h : Tr X bs X1 b1) (hf : FormP n) (hr : rangeB n = true) (hk : 8 ≤ n.k ∧ n.k ≤ 10) (hl : n.l = (X1.length : Int) - 1) : Tr X bs (X1 ++ [n]) (b1 ++ [(X.length : Int)]) := by
  have h1 := h.beg.len
  have h2 := h.lt
  refine Tr.snoc h.beg (by omega) h.keep hf hr ?_
  unfold Go.Proofs.Ytocophekfbhfbaa.beg
  rw [if_neg (by omega), if_pos hk, if_neg (by omega), h1]
  exact h.root

theorem Tr.two {X X1 X2 : List Nd} {bs b1 b2 : List Int} {n : Nd} (h : Tr X bs X1 b1) (g : Tr X1 b1 X2 b2) (hf : FormP n) (hr : rangeB n = true) (hk : n.k = 11 ∨ n.k = 12) (hl : n.l = (X1.length : Int) - 1) (hr2 : n.r = (X2.length : Int) - 1) :
    Tr X bs (X2 ++ [n]) (b2 ++ [(X.length : Int)]) := by
  have h1 := g.beg.len
  have h2 := h.lt
  have h3 := g.lt
  refine Tr.snoc g.beg (by omega) (fun j hj => (g.keep j (by omega)).trans (h.keep j hj)) hf hr ?_
  unfold Go.Proofs.Ytocophekfbhfbaa.beg
  have hg := g.root
  rw [if_pos hk, if_neg (by omega), h1, hg, if_neg (by omega), show ((X1.length : Int) - 1).toNat = X1.length - 1 by omega, g.keep _ (by omega)]
  exact h.root

theorem faultGo_all {ns : List Nd} {bs : List Int} (h : Beg ns ns.length bs) : ∀ (m k : Nat), k + m = ns.length → faultGo (bs.take k) (ns.drop k) = if bs.getD (ns.length - 1) 0 = 0 then 0 else 1
  | 0, k, hk => by
    have hl := h.len
    rw [List.drop_of_length_le (by omega), show bs.take k = bs by rw [List.take_of_length_le]; omega, faultGo, hl]
  | m + 1, k, hk => by
    have hl := h.len
    have hx : ns[k]? = some ns[k] := List.getElem?_eq_getElem (by omega)
    obtain ⟨a1, a2, a3, a4, a5⟩ := h.at_ k _ (by omega) hx
    rw [faultGo_at _ hx, if_neg (fun q => q a1), if_neg (by rw [a2]; decide), if_neg (by rw [a3]; omega), a3]
    have e : bs.take k ++ [bs.getD k 0] = bs.take (k + 1) := by
      rw [List.take_add_one, List.getElem?_eq_getElem (show k < bs.length by omega), List.getD_eq_getElem?_getD, List.getElem?_eq_getElem (show k < bs.length by omega)]; rfl
    rw [e]
    exact faultGo_all h m (k + 1) (by omega)

theorem Tr.fault {ns : List Nd} {bs : List Int} (h : Tr [] [] ns bs) (h24 : ns.length ≤ 24) : nodesFault ns = 0 := by
  have hl := h.lt
  have hr := h.root
  unfold nodesFault
  rw [if_neg (by simp at hl; omega)]
  have := faultGo_all h.beg ns.length 0 (by omega)
  rw [List.take_zero, List.drop_zero] at this
  rw [this, if_pos (by simpa using hr)]
end Go.Proofs.Ytocophekfbhfbaa

namespace Go.Proofs.Ytocophekfbhfbaa
open Go.RowKit
set_option linter.unusedVariables false
set_option linter.unusedSimpArgs false

/-- Whatever lies neither in the reader's box nor in its row is kept, and the row stays away from it. -/
def Kn (B : Nat) (v : Value) (w : World) (v' : Value) (w' : World) : Prop :=
  w.heap.size ≤ w'.heap.size ∧ ∀ b, b < w.heap.size → b ≠ B → v.ownBlock ≠ some b → w'.heap[b]? = w.heap[b]? ∧ v'.ownBlock ≠ some b
theorem Kn.trans {B : Nat} {v v1 v2 : Value} {w w1 w2 : World} (h : Kn B v w v1 w1) (k : Kn B v1 w1 v2 w2) : Kn B v w v2 w2 :=
  ⟨Nat.le_trans h.1 k.1, fun b hb hB hv => by
    have h1 := h.2 b hb hB hv
    have h2 := k.2 b (Nat.lt_of_lt_of_le hb h.1) hB h1.2
    exact ⟨h2.1.trans h1.1, h2.2⟩⟩
theorem Kn.of_below {w w' : World} (hb : Below w.heap.size w w') (B : Nat) (v : Value) : Kn B v w v w' := ⟨hb.size, fun b h _ hv => ⟨hb.block b h, hv⟩⟩
theorem Kn.setB (w : World) (B : Nat) (v : Value) (i : Nat) (u : Value) : Kn B v w v (w.setCell ⟨B, i, none⟩ u) :=
  ⟨by simp, fun b _ hB hv => ⟨Below.heap_setCell w ⟨B, i, none⟩ u b hB, hv⟩⟩
theorem Kn.grown {w w' : World} {v v' : Value} (B : Nat) (hg : w.grownBy w' v.ownBlock) (hn : v'.ownBlock = v.ownBlock ∨ ∀ j, v'.ownBlock = some j → w.heap.size ≤ j) : Kn B v w v' w' :=
  ⟨hg.size, fun b hb _ hv => ⟨hg.block b hb (fun e => hv e.symm), fun e => by
    rcases hn with q | q
    · exact hv (q ▸ e)
    · have := q b e; omega⟩⟩
theorem Kn.row (w : World) (B g n vc i : Nat) (u : Value) : Kn B (.slice (some ⟨g, 0, none⟩) n vc) w (.slice (some ⟨g, 0, none⟩) n vc) (w.setCell ⟨g, i, none⟩ u) :=
  ⟨by simp, fun b _ _ hv => ⟨Below.heap_setCell w ⟨g, i, none⟩ u b (fun e => hv (by rw [e]; rfl)), hv⟩⟩
theorem Kn.blk {B : Nat} {v v' : Value} {w w' : World} {b : Nat} {cs : Array Value} {t : TypeId} (h : Kn B v w v' w') (hb : Blk w b cs t ∧ v.ownBlock ≠ some b) (hB : b ≠ B) : Blk w' b cs t ∧ v'.ownBlock ≠ some b := by
  have q := h.2 b hb.1.lt hB hb.2
  exact ⟨q.1.trans hb.1, q.2⟩
/-- A reader in its box, with the nodes that it has. -/
structure Nr (Q0 : Nat) (w0 : World) (Q : Nat) (N0 N1 N3 : Value) (w : World) (v : Value) (X : List Nd) : Prop where
  blk : Blk w Q #[N0, N1, v, N3] 223
  own : OwnR ndE 5 151 w (Q + 1) v X.length X
  below : Below Q0 w0 w
  base : Q0 ≤ Q

theorem Nr.later {Q0 : Nat} {w0 : World} {Q : Nat} {N0 N1 N3 : Value} {w w' : World} {v : Value} {X : List Nd} (h : Nr Q0 w0 Q N0 N1 N3 w v X) (hb : Below w.heap.size w w') : Nr Q0 w0 Q N0 N1 N3 w' v X :=
  ⟨(hb.block Q h.blk.lt).trans h.blk, h.own.below hb, h.below.trans (hb.mono (by have := h.blk.lt; have := h.base; omega)), h.base⟩

theorem ndE_one (i : Nd) : ∀ u ∈ ndE i, u.oneCell' = true := by
  intro u hu
  simp [ndE] at hu
  rcases hu with rfl | rfl | rfl | rfl | rfl <;> rfl

theorem ndE_snoc (xs : List Nd) (i : Nd) : (xs ++ [i]).flatMap ndE = xs.flatMap ndE ++ ndE i := by simp

theorem infoNdE : (Try.prog.info? 151).map (fun i => (i.zero, i.size, i.bytes)) = some (some (.agg #[.int .i64 0, .int .i64 0, .string ⟨#[]⟩, .int .i64 0, .int .i64 0]), 5, 48) := by kernel_rfl

theorem cellsNd (w : World) (i : Nd) (e : TypeId) : ∀ f u, (ndE i)[f]? = some u → (w.alloc (.cells #[.int .i64 i.k, .int .i64 i.c, .string i.s, .int .i64 i.l, .int .i64 i.r] e)).cell? ⟨w.heap.size, f, none⟩ = some u := by
  intro f u hu
  have hh := cells_new w #[.int .i64 i.k, .int .i64 i.c, .string i.s, .int .i64 i.l, .int .i64 i.r] e f u (by simpa [ndE] using hu)
  rw [Addr.add_lit, Nat.zero_add] at hh
  exact hh

/-- A node is put behind a row: where the row lies behind it. -/
theorem wp_appNd2 {w : World} {o : Oper} {a : Act} {K : Act → World → Prop} {Q : Exit → Act → World → Prop} (s x : Operand)
    (ho : o.op = .call { callee := .builtin .append, args := #[s, x], argTypes := #[49, 49] }) (base : Nat) (v : Value) (n : Nat) (xs : List Nd) (hs : a.eval s = v) (hown : OwnR ndE 5 151 w base v n xs)
    (b c : Nat) (i : Nd) (hx : a.eval x = .slice (some ⟨b, 0, none⟩) 1 c) (hc : ∀ f u, (ndE i)[f]? = some u → w.cell? ⟨b, f, none⟩ = some u) (hn : n ≤ 1000000) (hbase : base ≤ w.heap.size)
    (h : ∀ v' w', OwnR ndE 5 151 w' base v' (n + 1) (xs ++ [i]) → w.grownBy w' v.ownBlock → (v'.ownBlock = v.ownBlock ∨ ∀ j, v'.ownBlock = some j → w.heap.size ≤ j) → K (a.put o.dst v') w') : o.wp Try.prog a w K Q := by
  obtain ⟨i0, hi, hz0, hz1, hz2⟩ := info_parts infoNdE
  have hcs : ∀ j u, (ndE i)[j]? = some u → w.cell? ((⟨b, 0, none⟩ : Addr).add j) = some u := fun j u hu => by rw [Addr.add_lit, Nat.zero_add]; exact hc j u hu
  have key : ∃ v' w', (Builtin.append_ #[49, 49] o.type #[v, .slice (some ⟨b, 0, none⟩) 1 c]).run Try.prog w = .ok v' w' ∧ OwnR ndE 5 151 w' base v' (n + 1) (xs ++ [i]) ∧ w.grownBy w' v.ownBlock ∧ (v'.ownBlock = v.ownBlock ∨ ∀ j, v'.ownBlock = some j → w.heap.size ≤ j) := by
    have mk : ∀ {w' : World} {base' : Nat} {v' : Value}, w'.ownsRow base' 151 5 v' (n + 1) (xs.flatMap ndE ++ ndE i) → OwnR ndE 5 151 w' base' v' (n + 1) (xs ++ [i]) := fun h1 => by
      rw [← ndE_snoc] at h1
      exact ⟨by rw [List.length_append, hown.1]; rfl, h1⟩
    rcases hown.2.2 with ⟨rfl, rfl⟩ | ⟨g, cap, cur, rfl, hbg, hg, hnc, hcm, hcs', htake⟩
    · have hx0 : xs = [] := List.eq_nil_of_length_eq_zero hown.1
      subst hx0
      obtain ⟨v', w', h1, h2, h3, -⟩ := run_append_own (P := Try.prog) w w.heap.size 49 o.type 151 i0 _ 5 48 Try.underlying49 hi hz0 hz1 hz2 rfl (by decide) (.slice none 0 0) 0 [] (World.ownsRow_nil _ _ _ _) ⟨b, 0, none⟩ 1 c (ndE i) rfl hcs (ndE_one i) (by unfold maxLen; omega) (by omega) (Nat.le_refl _)
      have h2' := mk h2
      exact ⟨v', w', h1, h2'.up hbase, h3, .inr fun j hj => (h2'.lt j hj).1⟩
    · by_cases hroom : n + 1 ≤ cap
      · obtain ⟨w', h1, h2, h3⟩ := run_append_own_spare (P := Try.prog) w base 49 o.type 151 i0 5 Try.underlying49 hi hz1 g n cap (xs.flatMap ndE) hown.2 ⟨b, 0, none⟩ 1 c (ndE i) rfl hcs (ndE_one i) hroom
        exact ⟨_, w', h1, mk h2, h3, .inl rfl⟩
      · obtain ⟨v', w', h1, h2, h3, -⟩ := run_append_own (P := Try.prog) w base 49 o.type 151 i0 _ 5 48 Try.underlying49 hi hz0 hz1 hz2 rfl (by decide) _ n (xs.flatMap ndE) hown.2 ⟨b, 0, none⟩ 1 c (ndE i) rfl hcs (ndE_one i) (by unfold maxLen; omega) (by omega) hbase
        have holds : ∀ j u, (xs.flatMap ndE)[j]? = some u → w.cell? ((⟨g, 0, none⟩ : Addr).add j) = some u := World.ownsRow.cells (g := g) hown.2 rfl
        have h4 := run_append_grow (P := Try.prog) w 49 o.type 151 i0 _ Try.underlying49 hi hz0 ⟨g, 0, none⟩ n cap (xs.flatMap ndE) (by rw [hz1]; exact hown.2.1) holds ⟨b, 0, none⟩ 1 c (ndE i) (by rw [hz1]; rfl) hcs (by omega) (by omega) (growslice_fits (by omega) (by rw [hz2]; omega))
        rw [h1] at h4
        cases h4
        exact ⟨_, _, h1, mk h2, h3, .inr fun j hj => by simp [Value.ownBlock] at hj; omega⟩
  obtain ⟨v', w', hrun, h2, h3, h4⟩ := key
  unfold Oper.wp execOp
  simp only [ho, resolve, invoke, builtin, Sem.run_bind, Sem.run_pure, Result.andThen_ok, List.map_toArray, List.map_cons, List.map_nil, hs, hx, hrun]
  exact h v' w' h2 h3 h4

set_option maxHeartbeats 3200000 in
set_option maxRecDepth 20000 in
theorem l5Add_any (Q0 : Nat) (w0 : World) (Q : Nat) (N0 N1 N3 : Value) (i : Nd) (w : World) (v : Value) (X : List Nd) (h : Nr Q0 w0 Q N0 N1 N3 w v X) (hl : X.length ≤ 100000) :
    Calls Try.prog 221 #[.pointer (some ⟨Q, 0, none⟩), .agg #[.int .i64 i.k, .int .i64 i.c, .string i.s, .int .i64 i.l, .int .i64 i.r]] w fun r w' => r = .returned (.int .i64 (X.length : Int)) ∧ ∃ v', Kn Q v w v' w' ∧ Nr Q0 w0 Q N0 N1 N3 w' v' (X ++ [i]) := by
  obtain ⟨k, c, s, l, r⟩ := i
  simp only
  obtain ⟨va, vc, rfl, -, -, -⟩ := h.own.rd ndE_len
  have hBlt := h.blk.lt
  have hown := h.own.lt
  have HNB : Hid (∀ j, (Value.slice va X.length vc).ownBlock = some j → j < w.heap.size) := fun j hj => (hown j hj).2
  have h1 := h.later ((Below.refl w.heap.size w).alloc (Nat.le_refl _) (.cells #[.int .i64 k, .int .i64 c, .string s, .int .i64 l, .int .i64 r] 151))
  have H1 : Hid _ := h1
  clear h h1 hown
  go_enter Try.func221, Try.ntmps221
  go_wp2_with fail
  obtain ⟨bI, hbI⟩ : ∃ b, w.heap.size = b := ⟨_, rfl⟩
  obtain ⟨W1, hW1⟩ : ∃ W, w.alloc (.cells #[.int .i64 k, .int .i64 c, .string s, .int .i64 l, .int .i64 r] 151) = W := ⟨_, rfl⟩
  have hz1 : W1.heap.size = bI + 1 := by rw [← hW1, ← hbI]; simp
  have hcs : W1.cell? ⟨bI, 0, none⟩ = some (.int .i64 k) ∧ W1.cell? ⟨bI, 1, none⟩ = some (.int .i64 c) ∧ W1.cell? ⟨bI, 2, none⟩ = some (.string s) ∧ W1.cell? ⟨bI, 3, none⟩ = some (.int .i64 l) ∧ W1.cell? ⟨bI, 4, none⟩ = some (.int .i64 r) := by rw [← hW1, ← hbI]; refine ⟨?_, ?_, ?_, ?_, ?_⟩ <;> simp [go_sem]
  rw [hW1] at H1 ⊢
  rw [hbI] at HNB hBlt ⊢
  have c1 : W1.cell? ⟨Q, 2, none⟩ = some (.slice va X.length vc) := by have := H1.out.blk.cell 2; simpa using this
  have c1' : W1.drew.cell? ⟨Q, 2, none⟩ = some (.slice va X.length vc) := c1
  have hbs := H1.out.base
  have HQ0 : Hid (Q0 ≤ Q) := hbs
  have HK0 : Hid (Kn Q (.slice va X.length vc) w (.slice va X.length vc) W1) := by rw [← hW1]; exact Kn.of_below ((Below.refl _ _).alloc (Nat.le_refl _) _) _ _
  have HCI : Hid (∀ f u, (ndE (⟨k, c, s, l, r⟩ : Nd))[f]? = some u → (W1.alloc (.cells #[.int .i64 k, .int .i64 c, .string s, .int .i64 l, .int .i64 r] 151)).drew.cell? ⟨bI + 1, f, none⟩ = some u) := by
    rw [← hz1]
    exact cellsNd W1 (⟨k, c, s, l, r⟩ : Nd) 151
  have hba : Below W1.heap.size W1 (W1.alloc (.cells #[.int .i64 k, .int .i64 c, .string s, .int .i64 l, .int .i64 r] 151)).drew := ((Below.refl _ _).alloc (Nat.le_refl _) _).drew
  have HOA : Hid (OwnR ndE 5 151 (W1.alloc (.cells #[.int .i64 k, .int .i64 c, .string s, .int .i64 l, .int .i64 r] 151)).drew (Q + 1) (.slice va X.length vc) X.length X) := H1.out.own.below hba
  have HBA : Hid (Blk (W1.alloc (.cells #[.int .i64 k, .int .i64 c, .string s, .int .i64 l, .int .i64 r] 151)).drew Q #[N0, N1, .slice va X.length vc, N3] 223) := (H1.out.later hba).blk
  have HWA : Hid (Below Q0 w0 (W1.alloc (.cells #[.int .i64 k, .int .i64 c, .string s, .int .i64 l, .int .i64 r] 151)).drew) := (H1.out.later hba).below
  have HBE : Hid _ := hba
  have HSA : Hid ((W1.alloc (.cells #[.int .i64 k, .int .i64 c, .string s, .int .i64 l, .int .i64 r] 151)).drew.cell? ⟨bI, 0, none⟩ = some (.int .i64 k) ∧ (W1.alloc (.cells #[.int .i64 k, .int .i64 c, .string s, .int .i64 l, .int .i64 r] 151)).drew.cell? ⟨bI, 1, none⟩ = some (.int .i64 c) ∧ (W1.alloc (.cells #[.int .i64 k, .int .i64 c, .string s, .int .i64 l, .int .i64 r] 151)).drew.cell? ⟨bI, 2, none⟩ = some (.string s) ∧ (W1.alloc (.cells #[.int .i64 k, .int .i64 c, .string s, .int .i64 l, .int .i64 r] 151)).drew.cell? ⟨bI, 3, none⟩ = some (.int .i64 l) ∧ (W1.alloc (.cells #[.int .i64 k, .int .i64 c, .string s, .int .i64 l, .int .i64 r] 151)).drew.cell? ⟨bI, 4, none⟩ = some (.int .i64 r)) := ⟨cell_later hba hcs.1, cell_later hba hcs.2.1, cell_later hba hcs.2.2.1, cell_later hba hcs.2.2.2.1, cell_later hba hcs.2.2.2.2⟩
  clear hW1 H1 hbI hba
  refine wp_region_held_drew (S := fun w' => w'.cell? ⟨bI, 0, none⟩ = some (.int .i64 k) ∧ w'.cell? ⟨bI, 1, none⟩ = some (.int .i64 c) ∧ w'.cell? ⟨bI, 2, none⟩ = some (.string s) ∧ w'.cell? ⟨bI, 3, none⟩ = some (.int .i64 l) ∧ w'.cell? ⟨bI, 4, none⟩ = some (.int .i64 r)) (by kernel_rfl) (by exact hcs) (fun hS => ?_)
  refine wpAnyH_take (i := 0) (v := (.pointer (some ⟨Q, 0, none⟩))) rfl (by as_aux_lemma => kernel_rfl) (by as_aux_lemma => kernel_rfl) (by as_aux_lemma => kernel_rfl) (fun _ _ _ h => h) (Or.inl ⟨by kernel_rfl, ?_⟩) hS ?_
  · intro w hSw; (try dsimp only at hSw); go_simp
  simp only [Act.put, List.getElem_toArray, List.getElem_cons_zero, List.getElem_cons_succ, List.setIfInBounds_toArray, List.set_cons_zero, List.set_cons_succ]
  refine wpAnyH_take (i := 1) (v := (.pointer (some ⟨Q, 0, none⟩))) rfl (by as_aux_lemma => kernel_rfl) (by as_aux_lemma => kernel_rfl) (by as_aux_lemma => kernel_rfl) (fun _ _ _ h => h) (Or.inl ⟨by kernel_rfl, ?_⟩) hS ?_
  · intro w hSw; (try dsimp only at hSw); go_simp
  simp only [Act.put, List.getElem_toArray, List.getElem_cons_zero, List.getElem_cons_succ, List.setIfInBounds_toArray, List.set_cons_zero, List.set_cons_succ]
  refine wpAnyH_take (i := 2) (v := (.pointer (some ⟨Q, 0, none⟩))) rfl (by as_aux_lemma => kernel_rfl) (by as_aux_lemma => kernel_rfl) (by as_aux_lemma => kernel_rfl) (fun _ _ _ h => h) (Or.inl ⟨by kernel_rfl, ?_⟩) hS ?_
  · intro w hSw; (try dsimp only at hSw); go_simp
  simp only [Act.put, List.getElem_toArray, List.getElem_cons_zero, List.getElem_cons_succ, List.setIfInBounds_toArray, List.set_cons_zero, List.set_cons_succ]
  refine wpAnyH_take (i := 3) (v := (.pointer (some ⟨Q, 2, none⟩))) rfl (by as_aux_lemma => kernel_rfl) (by as_aux_lemma => kernel_rfl) (by as_aux_lemma => kernel_rfl) (fun _ _ _ h => h) (Or.inl ⟨by kernel_rfl, ?_⟩) hS ?_
  · intro w hSw; (try dsimp only at hSw); go_simp
  simp only [Act.put, List.getElem_toArray, List.getElem_cons_zero, List.getElem_cons_succ, List.setIfInBounds_toArray, List.set_cons_zero, List.set_cons_succ]
  refine wpAnyH_take (i := 5) (v := (.agg #[.int .i64 k, .int .i64 c, .string s, .int .i64 l, .int .i64 r])) rfl (by as_aux_lemma => kernel_rfl) (by as_aux_lemma => kernel_rfl) (by as_aux_lemma => kernel_rfl) (fun _ _ _ h => h) (Or.inl ⟨by kernel_rfl, ?_⟩) hS ?_
  · intro w hSw; (try dsimp only at hSw); go_simp
  simp only [Act.put, List.getElem_toArray, List.getElem_cons_zero, List.getElem_cons_succ, List.setIfInBounds_toArray, List.set_cons_zero, List.set_cons_succ]
  refine wpAnyH_ready (rs := [4, 6]) (by as_aux_lemma => kernel_rfl) (by simp) ?_
  refine AllReadyH.cons rfl (fun K hK => ?_) (AllReadyH.cons rfl (fun K hK => ?_) AllReadyH.nil)
  · skip
    go_simp
    refine hK.out _ _ hS (fun hS => ?_)
    clear hK K
    (try simp only [Act.put, List.getElem_toArray, List.getElem_cons_zero, List.getElem_cons_succ, List.setIfInBounds_toArray, List.set_cons_zero, List.set_cons_succ])
    refine wpAnyH_ready (rs := [6]) (by as_aux_lemma => kernel_rfl) (by simp) ?_
    refine AllReadyH.cons rfl (fun K hK => ?_) AllReadyH.nil
    go_simp
    refine hK.out _ _ ⟨cell_later ((Below.refl _ _).alloc (Nat.le_refl _) (.cells #[.int .i64 k, .int .i64 c, .string s, .int .i64 l, .int .i64 r] 151)) hS.1, cell_later ((Below.refl _ _).alloc (Nat.le_refl _) (.cells #[.int .i64 k, .int .i64 c, .string s, .int .i64 l, .int .i64 r] 151)) hS.2.1, cell_later ((Below.refl _ _).alloc (Nat.le_refl _) (.cells #[.int .i64 k, .int .i64 c, .string s, .int .i64 l, .int .i64 r] 151)) hS.2.2.1, cell_later ((Below.refl _ _).alloc (Nat.le_refl _) (.cells #[.int .i64 k, .int .i64 c, .string s, .int .i64 l, .int .i64 r] 151)) hS.2.2.2.1, cell_later ((Below.refl _ _).alloc (Nat.le_refl _) (.cells #[.int .i64 k, .int .i64 c, .string s, .int .i64 l, .int .i64 r] 151)) hS.2.2.2.2⟩ (fun hS => ?_)
    clear hK K
    (try simp only [Act.put, List.getElem_toArray, List.getElem_cons_zero, List.getElem_cons_succ, List.setIfInBounds_toArray, List.set_cons_zero, List.set_cons_succ])
    refine wpAnyH_ready (rs := [7]) (by as_aux_lemma => kernel_rfl) (by simp) ?_
    refine AllReadyH.cons rfl (fun K hK => ?_) AllReadyH.nil
    refine wp_appNd2 _ _ rfl (Q + 1) _ X.length X rfl HOA.out _ _ (⟨k, c, s, l, r⟩ : Nd) rfl HCI.out (show X.length ≤ 1000000 by omega) (by simp; omega) ?_
    intro v5 w5 ho5 hg5 hn5
    obtain ⟨va5, vc5, hv5, -, -, -⟩ := ho5.rd ndE_len
    subst hv5
    have hne : ∀ j, (Value.slice va X.length vc).ownBlock = some j → Q + 1 ≤ j ∧ j < bI := fun j hj => ⟨(HOA.out.lt j hj).1, HNB.out j hj⟩
    have hB5 : Blk w5 Q #[N0, N1, .slice va X.length vc, N3] 223 := HBA.out.kept hg5 (fun e => by have := hne Q e.symm; omega)
    have hb5 : Below Q0 w0 w5 := HWA.out.grown hg5 (by have := HQ0.out; simp; omega) (fun j hj => by have := hne j hj; omega)
    have hS5 : w5.cell? ⟨bI, 0, none⟩ = some (.int .i64 k) ∧ w5.cell? ⟨bI, 1, none⟩ = some (.int .i64 c) ∧ w5.cell? ⟨bI, 2, none⟩ = some (.string s) ∧ w5.cell? ⟨bI, 3, none⟩ = some (.int .i64 l) ∧ w5.cell? ⟨bI, 4, none⟩ = some (.int .i64 r) := ⟨grown_cell hg5 HSA.out.1 (fun j hj e => by have q := hne j hj; simp only at e; omega), grown_cell hg5 HSA.out.2.1 (fun j hj e => by have q := hne j hj; simp only at e; omega), grown_cell hg5 HSA.out.2.2.1 (fun j hj e => by have q := hne j hj; simp only at e; omega), grown_cell hg5 HSA.out.2.2.2.1 (fun j hj e => by have q := hne j hj; simp only at e; omega), grown_cell hg5 HSA.out.2.2.2.2 (fun j hj e => by have q := hne j hj; simp only at e; omega)⟩
    refine hK.out _ _ hS5 (fun hS => ?_)
    clear hK K
    (try simp only [Act.put, List.getElem_toArray, List.getElem_cons_zero, List.getElem_cons_succ, List.setIfInBounds_toArray, List.set_cons_zero, List.set_cons_succ])
    refine wpAnyH_take (i := 8) (v := (.pointer (some ⟨Q, 0, none⟩))) rfl (by as_aux_lemma => kernel_rfl) (by as_aux_lemma => kernel_rfl) (by as_aux_lemma => kernel_rfl) (fun _ _ _ h => h) (Or.inl ⟨by kernel_rfl, ?_⟩) hS ?_
    · intro w hSw; (try dsimp only at hSw); go_simp
    simp only [Act.put, List.getElem_toArray, List.getElem_cons_zero, List.getElem_cons_succ, List.setIfInBounds_toArray, List.set_cons_zero, List.set_cons_succ]
    refine wpAnyH_take (i := 9) (v := (.pointer (some ⟨Q, 2, none⟩))) rfl (by as_aux_lemma => kernel_rfl) (by as_aux_lemma => kernel_rfl) (by as_aux_lemma => kernel_rfl) (fun _ _ _ h => h) (Or.inl ⟨by kernel_rfl, ?_⟩) hS ?_
    · intro w hSw; (try dsimp only at hSw); go_simp
    simp only [Act.put, List.getElem_toArray, List.getElem_cons_zero, List.getElem_cons_succ, List.setIfInBounds_toArray, List.set_cons_zero, List.set_cons_succ]
    refine wpAnyH_ready (rs := [10]) (by as_aux_lemma => kernel_rfl) (by simp) ?_
    refine AllReadyH.cons rfl (fun K hK => ?_) AllReadyH.nil
    have s1 : w5.cell? ⟨Q, 2, none⟩ = some (.slice va X.length vc) := by have := hB5.cell 2; simpa using this
    have sf1 := hB5.frozen 2
    go_simp
    have hS6 : (w5.setCell ⟨Q, 2, none⟩ (.slice va5 (X.length + 1) vc5)).cell? ⟨bI, 0, none⟩ = some (.int .i64 k) ∧ (w5.setCell ⟨Q, 2, none⟩ (.slice va5 (X.length + 1) vc5)).cell? ⟨bI, 1, none⟩ = some (.int .i64 c) ∧ (w5.setCell ⟨Q, 2, none⟩ (.slice va5 (X.length + 1) vc5)).cell? ⟨bI, 2, none⟩ = some (.string s) ∧ (w5.setCell ⟨Q, 2, none⟩ (.slice va5 (X.length + 1) vc5)).cell? ⟨bI, 3, none⟩ = some (.int .i64 l) ∧ (w5.setCell ⟨Q, 2, none⟩ (.slice va5 (X.length + 1) vc5)).cell? ⟨bI, 4, none⟩ = some (.int .i64 r) := ⟨(World.cell?_of_block (Below.heap_setCell w5 ⟨Q, 2, none⟩ (.slice va5 (X.length + 1) vc5) bI (by simp only; omega))).trans hS.1, (World.cell?_of_block (Below.heap_setCell w5 ⟨Q, 2, none⟩ (.slice va5 (X.length + 1) vc5) bI (by simp only; omega))).trans hS.2.1, (World.cell?_of_block (Below.heap_setCell w5 ⟨Q, 2, none⟩ (.slice va5 (X.length + 1) vc5) bI (by simp only; omega))).trans hS.2.2.1, (World.cell?_of_block (Below.heap_setCell w5 ⟨Q, 2, none⟩ (.slice va5 (X.length + 1) vc5) bI (by simp only; omega))).trans hS.2.2.2.1, (World.cell?_of_block (Below.heap_setCell w5 ⟨Q, 2, none⟩ (.slice va5 (X.length + 1) vc5) bI (by simp only; omega))).trans hS.2.2.2.2⟩
    refine hK.out _ _ hS6 (fun hS => ?_)
    clear hK K
    (try simp only [Act.put, List.getElem_toArray, List.getElem_cons_zero, List.getElem_cons_succ, List.setIfInBounds_toArray, List.set_cons_zero, List.set_cons_succ])
    refine wpAnyH_done (by kernel_rfl) ?_ _
    have hW : Nr Q0 w0 Q N0 N1 N3 (w5.setCell ⟨Q, 2, none⟩ (.slice va5 (X.length + 1) vc5)) (.slice va5 (X.length + 1) vc5) (X ++ [(⟨k, c, s, l, r⟩ : Nd)]) := ⟨by have := hB5.set (i := 2) (.slice va5 (X.length + 1) vc5); simpa using this, by rw [List.length_append]; exact ho5.setBelow (by simp) _, hb5.setCell hbs _, hbs⟩
    have HWR : Hid _ := hW
    have HKW : Hid (Kn Q (.slice va X.length vc) w (.slice va5 (X.length + 1) vc5) (w5.setCell ⟨Q, 2, none⟩ (.slice va5 (X.length + 1) vc5))) := HK0.out.trans ((Kn.of_below HBE.out _ _).trans ((Kn.grown Q hg5 hn5).trans (Kn.setB _ _ _ 2 _)))
    have hend : (w5.setCell ⟨Q, 2, none⟩ (.slice va5 (X.length + 1) vc5)).cell? ⟨Q, 2, none⟩ = some (.slice va5 (X.length + 1) vc5) := by have := hW.blk.cell 2; simpa using this
    clear hW ho5 hB5 hb5 hg5 hn5 hS
    go_wp2
    go_ret
    exact ⟨by first | rfl | simp, _, HKW.out, HWR.out⟩
  · skip
    go_simp
    refine hK.out _ _ ⟨cell_later ((Below.refl _ _).alloc (Nat.le_refl _) (.cells #[.int .i64 k, .int .i64 c, .string s, .int .i64 l, .int .i64 r] 151)) hS.1, cell_later ((Below.refl _ _).alloc (Nat.le_refl _) (.cells #[.int .i64 k, .int .i64 c, .string s, .int .i64 l, .int .i64 r] 151)) hS.2.1, cell_later ((Below.refl _ _).alloc (Nat.le_refl _) (.cells #[.int .i64 k, .int .i64 c, .string s, .int .i64 l, .int .i64 r] 151)) hS.2.2.1, cell_later ((Below.refl _ _).alloc (Nat.le_refl _) (.cells #[.int .i64 k, .int .i64 c, .string s, .int .i64 l, .int .i64 r] 151)) hS.2.2.2.1, cell_later ((Below.refl _ _).alloc (Nat.le_refl _) (.cells #[.int .i64 k, .int .i64 c, .string s, .int .i64 l, .int .i64 r] 151)) hS.2.2.2.2⟩ (fun hS => ?_)
    clear hK K
    (try simp only [Act.put, List.getElem_toArray, List.getElem_cons_zero, List.getElem_cons_succ, List.setIfInBounds_toArray, List.set_cons_zero, List.set_cons_succ])
    refine wpAnyH_ready (rs := [4]) (by as_aux_lemma => kernel_rfl) (by simp) ?_
    refine AllReadyH.cons rfl (fun K hK => ?_) AllReadyH.nil
    go_simp
    refine hK.out _ _ hS (fun hS => ?_)
    clear hK K
    (try simp only [Act.put, List.getElem_toArray, List.getElem_cons_zero, List.getElem_cons_succ, List.setIfInBounds_toArray, List.set_cons_zero, List.set_cons_succ])
    refine wpAnyH_ready (rs := [7]) (by as_aux_lemma => kernel_rfl) (by simp) ?_
    refine AllReadyH.cons rfl (fun K hK => ?_) AllReadyH.nil
    refine wp_appNd2 _ _ rfl (Q + 1) _ X.length X rfl HOA.out _ _ (⟨k, c, s, l, r⟩ : Nd) rfl HCI.out (show X.length ≤ 1000000 by omega) (by simp; omega) ?_
    intro v5 w5 ho5 hg5 hn5
    obtain ⟨va5, vc5, hv5, -, -, -⟩ := ho5.rd ndE_len
    subst hv5
    have hne : ∀ j, (Value.slice va X.length vc).ownBlock = some j → Q + 1 ≤ j ∧ j < bI := fun j hj => ⟨(HOA.out.lt j hj).1, HNB.out j hj⟩
    have hB5 : Blk w5 Q #[N0, N1, .slice va X.length vc, N3] 223 := HBA.out.kept hg5 (fun e => by have := hne Q e.symm; omega)
    have hb5 : Below Q0 w0 w5 := HWA.out.grown hg5 (by have := HQ0.out; simp; omega) (fun j hj => by have := hne j hj; omega)
    have hS5 : w5.cell? ⟨bI, 0, none⟩ = some (.int .i64 k) ∧ w5.cell? ⟨bI, 1, none⟩ = some (.int .i64 c) ∧ w5.cell? ⟨bI, 2, none⟩ = some (.string s) ∧ w5.cell? ⟨bI, 3, none⟩ = some (.int .i64 l) ∧ w5.cell? ⟨bI, 4, none⟩ = some (.int .i64 r) := ⟨grown_cell hg5 HSA.out.1 (fun j hj e => by have q := hne j hj; simp only at e; omega), grown_cell hg5 HSA.out.2.1 (fun j hj e => by have q := hne j hj; simp only at e; omega), grown_cell hg5 HSA.out.2.2.1 (fun j hj e => by have q := hne j hj; simp only at e; omega), grown_cell hg5 HSA.out.2.2.2.1 (fun j hj e => by have q := hne j hj; simp only at e; omega), grown_cell hg5 HSA.out.2.2.2.2 (fun j hj e => by have q := hne j hj; simp only at e; omega)⟩
    refine hK.out _ _ hS5 (fun hS => ?_)
    clear hK K
    (try simp only [Act.put, List.getElem_toArray, List.getElem_cons_zero, List.getElem_cons_succ, List.setIfInBounds_toArray, List.set_cons_zero, List.set_cons_succ])
    refine wpAnyH_take (i := 8) (v := (.pointer (some ⟨Q, 0, none⟩))) rfl (by as_aux_lemma => kernel_rfl) (by as_aux_lemma => kernel_rfl) (by as_aux_lemma => kernel_rfl) (fun _ _ _ h => h) (Or.inl ⟨by kernel_rfl, ?_⟩) hS ?_
    · intro w hSw; (try dsimp only at hSw); go_simp
    simp only [Act.put, List.getElem_toArray, List.getElem_cons_zero, List.getElem_cons_succ, List.setIfInBounds_toArray, List.set_cons_zero, List.set_cons_succ]
    refine wpAnyH_take (i := 9) (v := (.pointer (some ⟨Q, 2, none⟩))) rfl (by as_aux_lemma => kernel_rfl) (by as_aux_lemma => kernel_rfl) (by as_aux_lemma => kernel_rfl) (fun _ _ _ h => h) (Or.inl ⟨by kernel_rfl, ?_⟩) hS ?_
    · intro w hSw; (try dsimp only at hSw); go_simp
    simp only [Act.put, List.getElem_toArray, List.getElem_cons_zero, List.getElem_cons_succ, List.setIfInBounds_toArray, List.set_cons_zero, List.set_cons_succ]
    refine wpAnyH_ready (rs := [10]) (by as_aux_lemma => kernel_rfl) (by simp) ?_
    refine AllReadyH.cons rfl (fun K hK => ?_) AllReadyH.nil
    have s1 : w5.cell? ⟨Q, 2, none⟩ = some (.slice va X.length vc) := by have := hB5.cell 2; simpa using this
    have sf1 := hB5.frozen 2
    go_simp
    have hS6 : (w5.setCell ⟨Q, 2, none⟩ (.slice va5 (X.length + 1) vc5)).cell? ⟨bI, 0, none⟩ = some (.int .i64 k) ∧ (w5.setCell ⟨Q, 2, none⟩ (.slice va5 (X.length + 1) vc5)).cell? ⟨bI, 1, none⟩ = some (.int .i64 c) ∧ (w5.setCell ⟨Q, 2, none⟩ (.slice va5 (X.length + 1) vc5)).cell? ⟨bI, 2, none⟩ = some (.string s) ∧ (w5.setCell ⟨Q, 2, none⟩ (.slice va5 (X.length + 1) vc5)).cell? ⟨bI, 3, none⟩ = some (.int .i64 l) ∧ (w5.setCell ⟨Q, 2, none⟩ (.slice va5 (X.length + 1) vc5)).cell? ⟨bI, 4, none⟩ = some (.int .i64 r) := ⟨(World.cell?_of_block (Below.heap_setCell w5 ⟨Q, 2, none⟩ (.slice va5 (X.length + 1) vc5) bI (by simp only; omega))).trans hS.1, (World.cell?_of_block (Below.heap_setCell w5 ⟨Q, 2, none⟩ (.slice va5 (X.length + 1) vc5) bI (by simp only; omega))).trans hS.2.1, (World.cell?_of_block (Below.heap_setCell w5 ⟨Q, 2, none⟩ (.slice va5 (X.length + 1) vc5) bI (by simp only; omega))).trans hS.2.2.1, (World.cell?_of_block (Below.heap_setCell w5 ⟨Q, 2, none⟩ (.slice va5 (X.length + 1) vc5) bI (by simp only; omega))).trans hS.2.2.2.1, (World.cell?_of_block (Below.heap_setCell w5 ⟨Q, 2, none⟩ (.slice va5 (X.length + 1) vc5) bI (by simp only; omega))).trans hS.2.2.2.2⟩
    refine hK.out _ _ hS6 (fun hS => ?_)
    clear hK K
    (try simp only [Act.put, List.getElem_toArray, List.getElem_cons_zero, List.getElem_cons_succ, List.setIfInBounds_toArray, List.set_cons_zero, List.set_cons_succ])
    refine wpAnyH_done (by kernel_rfl) ?_ _
    have hW : Nr Q0 w0 Q N0 N1 N3 (w5.setCell ⟨Q, 2, none⟩ (.slice va5 (X.length + 1) vc5)) (.slice va5 (X.length + 1) vc5) (X ++ [(⟨k, c, s, l, r⟩ : Nd)]) := ⟨by have := hB5.set (i := 2) (.slice va5 (X.length + 1) vc5); simpa using this, by rw [List.length_append]; exact ho5.setBelow (by simp) _, hb5.setCell hbs _, hbs⟩
    have HWR : Hid _ := hW
    have HKW : Hid (Kn Q (.slice va X.length vc) w (.slice va5 (X.length + 1) vc5) (w5.setCell ⟨Q, 2, none⟩ (.slice va5 (X.length + 1) vc5))) := HK0.out.trans ((Kn.of_below HBE.out _ _).trans ((Kn.grown Q hg5 hn5).trans (Kn.setB _ _ _ 2 _)))
    have hend : (w5.setCell ⟨Q, 2, none⟩ (.slice va5 (X.length + 1) vc5)).cell? ⟨Q, 2, none⟩ = some (.slice va5 (X.length + 1) vc5) := by have := hW.blk.cell 2; simpa using this
    clear hW ho5 hB5 hb5 hg5 hn5 hS
    go_wp2
    go_ret
    exact ⟨by first | rfl | simp, _, HKW.out, HWR.out⟩

end Go.Proofs.Ytocophekfbhfbaa

namespace Go.Proofs.Ytocophekfbhfbaa
open Go.RowKit
set_option linter.unusedVariables false
set_option linter.unusedSimpArgs false

/-- What stays but for the source, the reader's box and its nodes. -/
def Ks (b Q : Nat) (v : Value) (w : World) (v' : Value) (w' : World) : Prop :=
  w.heap.size ≤ w'.heap.size ∧ ∀ k, k < w.heap.size → k ≠ b → k ≠ Q → v.ownBlock ≠ some k → w'.heap[k]? = w.heap[k]? ∧ v'.ownBlock ≠ some k
section
variable {b Q N : Nat} {v v1 v2 : Value} {w w1 w2 : World}
theorem Ks.refl (b Q : Nat) (v : Value) (w : World) : Ks b Q v w v w := ⟨Nat.le_refl _, fun k _ _ _ h => ⟨rfl, h⟩⟩
theorem Ks.trans (h : Ks b Q v w v1 w1) (k : Ks b Q v1 w1 v2 w2) : Ks b Q v w v2 w2 :=
  ⟨Nat.le_trans h.1 k.1, fun j hj h1 h2 h3 => by
    have a := h.2 j hj h1 h2 h3
    have c := k.2 j (Nat.lt_of_lt_of_le hj h.1) h1 h2 a.2
    exact ⟨c.1.trans a.1, c.2⟩⟩
theorem Ks.src (hg : w.grownBy w1 (some b)) : Ks b Q v w v w1 := ⟨hg.size, fun k hk hb _ hv => ⟨hg.block k hk (fun e => hb (Option.some.inj e)), hv⟩⟩
theorem Ks.below (hb : Below w.heap.size w w1) : Ks b Q v w v w1 := ⟨hb.size, fun k hk _ _ hv => ⟨hb.block k hk, hv⟩⟩
theorem Ks.alloc (o : Obj) : Ks b Q v w v (w.alloc o) := Ks.below ((Below.refl _ _).alloc (Nat.le_refl _) o)
theorem Ks.mix (h : Ks b Q v w v1 w1) (hg : w1.grownBy w2 (some N)) (hN : w.heap.size ≤ N) : Ks b Q v w v1 w2 :=
  ⟨Nat.le_trans h.1 hg.size, fun k hk h1 h2 h3 => by
    have a := h.2 k hk h1 h2 h3
    exact ⟨(hg.block k (Nat.lt_of_lt_of_le hk h.1) (fun e => by have := Option.some.inj e; omega)).trans a.1, a.2⟩⟩
theorem Ks.kn (h : Kn Q v w v1 w1) : Ks b Q v w v1 w1 := ⟨h.1, fun k hk _ h2 h3 => h.2 k hk h2 h3⟩
theorem Ks.blk {cs : Array Value} {t : TypeId} (h : Ks b Q v w v1 w1) (hB : Blk w N cs t) (hb : N ≠ b) (hQ : N ≠ Q) (hv : v.ownBlock ≠ some N) : Blk w1 N cs t ∧ v1.ownBlock ≠ some N := by
  have q := h.2 N hB.lt hb hQ hv
  exact ⟨q.1.trans hB, q.2⟩
end

/-- The reader; w0: the world at the beginning; b: the source. -/
structure Rr (w0 : World) (B b Q T : Nat) (w : World) (v : Value) (X : List Nd) : Prop where
  blk : Blk w Q #[.string ⟨#[]⟩, .int .i64 0, v, .bool false] 223
  own : OwnR ndE 5 151 w (Q + 1) v X.length X
  grown : w0.grownBy w (some b)
  src : Src w B b T
  base : w0.heap.size ≤ Q
  lt : b < w0.heap.size
section
variable {w0 w w1 : World} {B b Q T T1 N : Nat} {v v1 : Value} {X X1 : List Nd}
theorem Rr.srcStep (R : Rr w0 B b Q T w v X) (hg : w.grownBy w1 (some b)) (hs : Src w1 B b T1) : Rr w0 B b Q T1 w1 v X := by
  have h1 := R.base
  have h2 := R.lt
  exact ⟨R.blk.kept hg (fun e => by have := Option.some.inj e; omega), R.own.kept hg (fun j hj e => by have := (R.own.lt j hj).1; have := Option.some.inj e; omega), grown_trans R.grown hg, hs, h1, h2⟩
theorem Rr.below (R : Rr w0 B b Q T w v X) (hb : Below w.heap.size w w1) : Rr w0 B b Q T w1 v X :=
  ⟨R.blk.kept (grownBy_of_below hb) (by simp), R.own.below hb, grown_trans R.grown (grown_none (grownBy_of_below hb)), R.src.kept (grownBy_of_below hb) (by simp), R.base, R.lt⟩
theorem Rr.alloc (R : Rr w0 B b Q T w v X) (o : Obj) : Rr w0 B b Q T (w.alloc o) v X := R.below ((Below.refl _ _).alloc (Nat.le_refl _) o)
theorem Rr.drawn {o : Obj} (R : Rr w0 B b Q T w v X) (hc : (w.alloc o).grownBy w1 (some b)) (hs : Src w1 B b T1) : Rr w0 B b Q T1 w1 v X ∧ Ks b Q v w v w1 :=
  ⟨R.srcStep (grownBy_alloc_trans hc) hs, Ks.src (grownBy_alloc_trans hc)⟩
theorem Rr.set (R : Rr w0 B b Q T w v X) (hN : w0.heap.size ≤ N) (hQ : N ≠ Q) (hv : v.ownBlock ≠ some N) (i : Nat) (u : Value) : Rr w0 B b Q T (w.setCell ⟨N, i, none⟩ u) v X := by
  have h1 := R.base
  have h2 := R.lt
  have hB := R.src.1
  have hg := setCell_grown w N i u
  exact ⟨R.blk.kept hg (fun e => hQ (Option.some.inj e).symm), R.own.kept hg (fun j hj e => hv (by rw [hj, e])), grown_mix R.grown hg (fun j hj => by have := Option.some.inj hj; omega), R.src.kept hg (fun j hj => by have := Option.some.inj hj; omega), h1, h2⟩
theorem Rr.nr (R : Rr w0 B b Q T w v X) : Nr Q w Q (.string ⟨#[]⟩) (.int .i64 0) (.bool false) w v X := ⟨R.blk, R.own, Below.refl _ _, Nat.le_refl _⟩
theorem Src.low {Q : Nat} {w w1 : World} {B b T : Nat} (h : Src w B b T) (hb : Below Q w w1) (hQ : b < Q) : Src w1 B b T := by
  obtain ⟨hB, a, n, ca, xs, t, h0, h1, h2, h3, h4, h5, h6, h7, h8⟩ := h
  have hk := hb.block b hQ
  refine ⟨hB, a, n, ca, xs, t, (World.cell?_of_block (w := w) hk).trans h0, (World.cell?_of_block (w := w) hk).trans h1, (World.frozen?_of_block (w := w) hk).trans h2, ?_, h4, h5, h6, h7, h8⟩
  refine ⟨h3.1, ?_⟩
  rcases h8 with h8 | ⟨b', off, ha, hb'⟩
  · exact .inl h8
  · rcases h3.2 with h0 | ⟨b1, o1, ha1, hc⟩
    · exact .inl h0
    · rw [ha] at ha1
      simp only [Option.some.injEq, Addr.mk.injEq, and_true] at ha1
      obtain ⟨rfl, rfl⟩ := ha1
      exact .inr ⟨b', off, ha, fun j hj => (World.cell?_of_block (w := w) (hb.block b' (by omega))).trans (hc j hj)⟩
theorem Rr.add (R : Rr w0 B b Q T w v X) (h : Nr Q w Q (.string ⟨#[]⟩) (.int .i64 0) (.bool false) w1 v1 X1) : Rr w0 B b Q T w1 v1 X1 := by
  have h1 := R.base
  have h2 := R.lt
  have hb := h.below
  exact ⟨h.blk, h.own, ⟨hb.os.trans R.grown.os, hb.tape.trans R.grown.tape, hb.output.trans R.grown.output, Nat.le_trans R.grown.size hb.size, fun k hk hne => (hb.block k (by omega)).trans (R.grown.block k hk hne)⟩, R.src.low hb (by omega), h1, h2⟩
theorem Rr.more (R : Rr w0 B b Q T w v X) (h : T ≤ T1) : Rr w0 B b Q T1 w v X := ⟨R.blk, R.own, R.grown, R.src.more h, R.base, R.lt⟩
/-- A box that is laid now. -/
theorem Rr.box (R : Rr w0 B b Q T w v X) (cs : Array Value) (t : TypeId) : Rr w0 B b Q T (w.alloc (.cells cs t)) v X ∧ Blk (w.alloc (.cells cs t)) w.heap.size cs t ∧ Ks b Q v w v (w.alloc (.cells cs t)) ∧ w.heap.size ≠ b ∧ w.heap.size ≠ Q ∧ v.ownBlock ≠ some w.heap.size ∧ w0.heap.size ≤ w.heap.size := by
  have h1 := R.base
  have h2 := R.lt
  have h3 := R.blk.lt
  exact ⟨R.alloc _, Blk.new _ _ _, Ks.alloc _, by omega, by omega, fun e => by have := (R.own.lt _ e).2; omega, by omega⟩
end

/-- How many nodes, how many draws. -/
def nq : Nat → Nat | 0 => 1 | f + 1 => 1 + 2 * nq f
def tq : Nat → Nat | 0 => 4 | f + 1 => 4 + 2 * tq f
theorem leafOk {k : Int} (h : k = 3 ∨ k = 6 ∨ k = 7 ∨ k = 1) : FormP ⟨k, 0, ⟨#[]⟩, 0, 0⟩ ∧ rangeB ⟨k, 0, ⟨#[]⟩, 0, 0⟩ = true := by
  rcases h with rfl | rfl | rfl | rfl <;> decide
theorem charOk {c : Int} (h : c ∈ ([97, 98, 99, 32, 42, 92] : List Int)) : FormP ⟨2, c, ⟨#[]⟩, 0, 0⟩ ∧ rangeB ⟨2, c, ⟨#[]⟩, 0, 0⟩ = true := by
  simp only [List.mem_cons, List.not_mem_nil, or_false] at h
  rcases h with rfl | rfl | rfl | rfl | rfl | rfl <;> decide
theorem setOk {k : Int} {S : ByteArray} (h : k = 4 ∨ k = 5) (hS : S ∈ ([⟨#[97, 98]⟩, ⟨#[99]⟩, ⟨#[32, 93, 94]⟩, ⟨#[98]⟩] : List ByteArray)) : FormP ⟨k, 0, S, 0, 0⟩ ∧ rangeB ⟨k, 0, S, 0, 0⟩ = true := by
  simp only [List.mem_cons, List.not_mem_nil, or_false] at hS
  rcases h with rfl | rfl <;> rcases hS with rfl | rfl | rfl | rfl <;> exact ⟨⟨by decide, by decide, by decide, by decide, by decide⟩, by rfl⟩
theorem oneOk {k l : Int} (h : 8 ≤ k ∧ k ≤ 10) : FormP ⟨k, 0, ⟨#[]⟩, l, 0⟩ ∧ rangeB ⟨k, 0, ⟨#[]⟩, l, 0⟩ = true := by
  refine ⟨⟨⟨by show 1 ≤ k; omega, by show k ≤ 12; omega⟩, .inr rfl, .inr (.inr rfl), .inr (.inr rfl), .inl (by show 8 ≤ k; omega)⟩, ?_⟩
  unfold rangeB
  rw [if_neg (by show ¬ k = 2; omega), if_neg (by show ¬ (k = 4 ∨ k = 5); omega)]
theorem twoOk {k l r : Int} (h : k = 11 ∨ k = 12) : FormP ⟨k, 0, ⟨#[]⟩, l, r⟩ ∧ rangeB ⟨k, 0, ⟨#[]⟩, l, r⟩ = true := by
  refine ⟨⟨⟨by show 1 ≤ k; omega, by show k ≤ 12; omega⟩, .inr rfl, .inr (.inr rfl), by show k = 11 ∨ k = 12 ∨ _; omega, .inl (by show 8 ≤ k; omega)⟩, ?_⟩
  unfold rangeB
  rw [if_neg (by show ¬ k = 2; omega), if_neg (by show ¬ (k = 4 ∨ k = 5); omega)]
end Go.Proofs.Ytocophekfbhfbaa

namespace Go.Proofs.Ytocophekfbhfbaa
open Go.RowKit
set_option linter.unusedVariables false
set_option linter.unusedSimpArgs false

set_option maxHeartbeats 12800000 in
set_option maxRecDepth 20000 in
theorem l5Make_any (w0 : World) (B b Q : Nat) : ∀ (f T : Nat) (D : Int) (w : World) (v : Value) (X : List Nd) (bs : List Int), D = (f : Int) → f ≤ 10 → T + tq f ≤ 1000000 → X.length + nq f ≤ 10000 → Rr w0 B b Q T w v X → Beg X X.length bs →
    Calls Try.prog 160 #[.pointer (some ⟨b, 0, none⟩), .pointer (some ⟨Q, 0, none⟩), .int .i64 D] w fun e w' => ∃ p v' X' bs', e = .returned (.int .i64 p) ∧ p = (X'.length : Int) - 1 ∧ Tr X bs X' bs' ∧ X'.length ≤ X.length + nq f ∧ Rr w0 B b Q (T + tq f) w' v' X' ∧ Ks b Q v w v' w'
  | 0, T, D, w, v, X, bs, hD, hf, hT, hX, R, hb => by
    have hbw := R.src.lt
    have hD0 : ¬ 0 < D := by omega
    simp only [nq] at hX
    simp only [tq] at hT
    go_enter Try.func160, Try.ntmps160
    go_wp2_with fail
    have hltw1 := R.src.lt
    refine Calls.mono (l1Pick_any B b _ _ 9 [2, 2, 2, 3, 4, 5, 6, 7, 1] _ (R.src.alloc _) (by omega) rfl (by omega) (by omega) (by first | omega | (simp; omega)) (lit_at _ _ [2, 2, 2, 3, 4, 5, 6, 7, 1] 9 rfl 2 (by first | rfl | assumption | simp) (by simp [maxLen]))) ?_
    rintro e w1 ⟨kd, rfl, hk, hs, hc⟩
    obtain ⟨R1, K1⟩ := R.drawn hc hs
    clear hs hc
    have hk1 : kd = 2 ∨ (kd = 3 ∨ kd = 6 ∨ kd = 7 ∨ kd = 1) ∨ (kd = 4 ∨ kd = 5) := by simp at hk; omega
    clear hk
    rcases hk1 with rfl | hk' | hk'
    · skip
      go_wp2_with fail
      obtain ⟨R2, Bn, K2, hNb, hNQ, hNv, hN0⟩ := R1.box #[.int .i64 2, .int .i64 0, .string ⟨#[]⟩, .int .i64 0, .int .i64 0] 151
      obtain ⟨W2, hW2⟩ : ∃ x, (w1.alloc (.cells #[.int .i64 2, .int .i64 0, .string ⟨#[]⟩, .int .i64 0, .int .i64 0] 151)) = x := ⟨_, rfl⟩
      have hWs : W2.heap.size = w1.heap.size + 1 := by rw [← hW2]; simp
      rw [hW2] at R2 Bn K2 ⊢
      clear hW2
      obtain ⟨N, hN⟩ : ∃ x, w1.heap.size = x := ⟨_, rfl⟩
      rw [hN] at Bn hNb hNQ hNv hN0 hWs ⊢
      have hNw : w.heap.size ≤ N := by have := K1.1; omega
      have hltw3 := R2.src.lt
      refine Calls.mono (l1Pick_any B b _ _ 6 [97, 98, 99, 32, 42, 92] _ (R2.src.alloc _) (by omega) rfl (by omega) (by omega) (by first | omega | (simp; omega)) (lit_at _ _ [97, 98, 99, 32, 42, 92] 6 rfl 2 (by first | rfl | assumption | simp) (by simp [maxLen]))) ?_
      rintro e w3 ⟨ch, rfl, hch, hs, hc⟩
      obtain ⟨R3, K3⟩ := R2.drawn hc hs
      clear hs hc
      obtain ⟨Bn3, hNv3⟩ := K3.blk Bn hNb hNQ hNv
      have cn0 : w3.cell? ⟨N, 0, none⟩ = some (Value.int .i64 2) := by have := Bn3.cell 0; simpa using this
      have cn1 : w3.cell? ⟨N, 1, none⟩ = some (Value.int .i64 0) := by have := Bn3.cell 1; simpa using this
      have cn2 : w3.cell? ⟨N, 2, none⟩ = some (Value.string ⟨#[]⟩) := by have := Bn3.cell 2; simpa using this
      have cn3 : w3.cell? ⟨N, 3, none⟩ = some (Value.int .i64 0) := by have := Bn3.cell 3; simpa using this
      have cn4 : w3.cell? ⟨N, 4, none⟩ = some (Value.int .i64 0) := by have := Bn3.cell 4; simpa using this
      have fn0 : w3.frozen? ⟨N, 0, none⟩ = false := Bn3.frozen 0
      have fn1 : w3.frozen? ⟨N, 1, none⟩ = false := Bn3.frozen 1
      have fn2 : w3.frozen? ⟨N, 2, none⟩ = false := Bn3.frozen 2
      have fn3 : w3.frozen? ⟨N, 3, none⟩ = false := Bn3.frozen 3
      have fn4 : w3.frozen? ⟨N, 4, none⟩ = false := Bn3.frozen 4
      go_wp2_with fail
      refine Calls.mono (l5Add_any Q _ Q _ _ _ (⟨2, ch, ⟨#[]⟩, 0, 0⟩ : Nd) _ _ X (R3.set hN0 hNQ hNv3 1 (.int .i64 ch)).nr (by omega)) ?_
      rintro e w9 ⟨rfl, v9, hk9, hn9⟩
      go_wp2
      go_ret
      exact ⟨_, v9, _, _, rfl, by simp only [List.length_append, List.length_cons, List.length_nil]; omega, Tr.leaf hb (charOk hch).1 (charOk hch).2 (by show (2 : Int) ≤ 7; omega), by simp only [List.length_append, List.length_cons, List.length_nil, nq]; omega, ((R3.set hN0 hNQ hNv3 1 (.int .i64 ch)).add hn9).more (by simp only [tq]; omega), ((K1.trans (K2.trans K3)).mix (setCell_grown _ N 1 _) hNw).trans (Ks.kn hk9)⟩
    · skip
      have q2 : ¬ kd = 2 := by omega
      go_wp2_with fail
      obtain ⟨R2, Bn, K2, hNb, hNQ, hNv, hN0⟩ := R1.box #[.int .i64 kd, .int .i64 0, .string ⟨#[]⟩, .int .i64 0, .int .i64 0] 151
      obtain ⟨W2, hW2⟩ : ∃ x, (w1.alloc (.cells #[.int .i64 kd, .int .i64 0, .string ⟨#[]⟩, .int .i64 0, .int .i64 0] 151)) = x := ⟨_, rfl⟩
      have hWs : W2.heap.size = w1.heap.size + 1 := by rw [← hW2]; simp
      rw [hW2] at R2 Bn K2 ⊢
      clear hW2
      obtain ⟨N, hN⟩ : ∃ x, w1.heap.size = x := ⟨_, rfl⟩
      rw [hN] at Bn hNb hNQ hNv hN0 hWs ⊢
      have hNw : w.heap.size ≤ N := by have := K1.1; omega
      have cn0 : W2.cell? ⟨N, 0, none⟩ = some (Value.int .i64 kd) := by have := Bn.cell 0; simpa using this
      have cn1 : W2.cell? ⟨N, 1, none⟩ = some (Value.int .i64 0) := by have := Bn.cell 1; simpa using this
      have cn2 : W2.cell? ⟨N, 2, none⟩ = some (Value.string ⟨#[]⟩) := by have := Bn.cell 2; simpa using this
      have cn3 : W2.cell? ⟨N, 3, none⟩ = some (Value.int .i64 0) := by have := Bn.cell 3; simpa using this
      have cn4 : W2.cell? ⟨N, 4, none⟩ = some (Value.int .i64 0) := by have := Bn.cell 4; simpa using this
      have fn0 : W2.frozen? ⟨N, 0, none⟩ = false := Bn.frozen 0
      have fn1 : W2.frozen? ⟨N, 1, none⟩ = false := Bn.frozen 1
      have fn2 : W2.frozen? ⟨N, 2, none⟩ = false := Bn.frozen 2
      have fn3 : W2.frozen? ⟨N, 3, none⟩ = false := Bn.frozen 3
      have fn4 : W2.frozen? ⟨N, 4, none⟩ = false := Bn.frozen 4
      refine (l5Has_is _ false _ (by simp; omega)).mono ?_
      rintro e wq ⟨rfl, hwq⟩
      have hwq2 := hwq.symm
      subst hwq2
      clear hwq
      go_wp2_with fail
      refine (l5One_is _ false _ (by simp; try omega)).mono ?_
      rintro e wq ⟨rfl, hwq⟩
      have hwq2 := hwq.symm
      subst hwq2
      clear hwq
      go_wp2_with fail
      refine (l5Two_is _ false _ (by simp; try omega)).mono ?_
      rintro e wq ⟨rfl, hwq⟩
      have hwq2 := hwq.symm
      subst hwq2
      clear hwq
      go_wp2_with fail
      refine Calls.mono (l5Add_any Q _ Q _ _ _ (⟨kd, 0, ⟨#[]⟩, 0, 0⟩ : Nd) _ _ X (R2).nr (by omega)) ?_
      rintro e w9 ⟨rfl, v9, hk9, hn9⟩
      go_wp2
      go_ret
      exact ⟨_, v9, _, _, rfl, by simp only [List.length_append, List.length_cons, List.length_nil]; omega, Tr.leaf hb (leafOk hk').1 (leafOk hk').2 (by show kd ≤ 7; omega), by simp only [List.length_append, List.length_cons, List.length_nil, nq]; omega, ((R2).add hn9).more (by simp only [tq]; omega), (K1.trans K2).trans (Ks.kn hk9)⟩
    · skip
      have q2 : ¬ kd = 2 := by omega
      go_wp2_with fail
      obtain ⟨R2, Bn, K2, hNb, hNQ, hNv, hN0⟩ := R1.box #[.int .i64 kd, .int .i64 0, .string ⟨#[]⟩, .int .i64 0, .int .i64 0] 151
      obtain ⟨W2, hW2⟩ : ∃ x, (w1.alloc (.cells #[.int .i64 kd, .int .i64 0, .string ⟨#[]⟩, .int .i64 0, .int .i64 0] 151)) = x := ⟨_, rfl⟩
      have hWs : W2.heap.size = w1.heap.size + 1 := by rw [← hW2]; simp
      rw [hW2] at R2 Bn K2 ⊢
      clear hW2
      obtain ⟨N, hN⟩ : ∃ x, w1.heap.size = x := ⟨_, rfl⟩
      rw [hN] at Bn hNb hNQ hNv hN0 hWs ⊢
      have hNw : w.heap.size ≤ N := by have := K1.1; omega
      refine (l5Has_is _ true _ (by simp; omega)).mono ?_
      rintro e wq ⟨rfl, hwq⟩
      have hwq2 := hwq.symm
      subst hwq2
      clear hwq
      go_wp2_with fail
      refine Calls.mono (l1Next_any B b _ 4 _ (R2.src.alloc _) (by omega) (by omega)) ?_
      rintro e w3 ⟨r, rfl, hr, hs, hc⟩
      obtain ⟨hr0, hr1⟩ := hr.2 (by omega)
      obtain ⟨R3, K3⟩ := R2.drawn hc hs
      obtain ⟨Bn3, hNv3⟩ := K3.blk Bn hNb hNQ hNv
      have hbW := R2.src.lt
      have hbN : ∀ j, some b = some j → N + 1 ≠ j := fun j hj => by have := Option.some.inj hj; omega
      have cl0 : w3.cell? ⟨N + 1, 0, none⟩ = some (.string ⟨#[97, 98]⟩) := grown_cell hc (by rw [← hWs]; simp [go_sem]) hbN
      have cl1 : w3.cell? ⟨N + 1, 1, none⟩ = some (.string ⟨#[99]⟩) := grown_cell hc (by rw [← hWs]; simp [go_sem]) hbN
      have cl2 : w3.cell? ⟨N + 1, 2, none⟩ = some (.string ⟨#[32, 93, 94]⟩) := grown_cell hc (by rw [← hWs]; simp [go_sem]) hbN
      have cl3 : w3.cell? ⟨N + 1, 3, none⟩ = some (.string ⟨#[98]⟩) := grown_cell hc (by rw [← hWs]; simp [go_sem]) hbN
      clear hs hc
      have cn0 : w3.cell? ⟨N, 0, none⟩ = some (Value.int .i64 kd) := by have := Bn3.cell 0; simpa using this
      have cn1 : w3.cell? ⟨N, 1, none⟩ = some (Value.int .i64 0) := by have := Bn3.cell 1; simpa using this
      have cn2 : w3.cell? ⟨N, 2, none⟩ = some (Value.string ⟨#[]⟩) := by have := Bn3.cell 2; simpa using this
      have cn3 : w3.cell? ⟨N, 3, none⟩ = some (Value.int .i64 0) := by have := Bn3.cell 3; simpa using this
      have cn4 : w3.cell? ⟨N, 4, none⟩ = some (Value.int .i64 0) := by have := Bn3.cell 4; simpa using this
      have fn0 : w3.frozen? ⟨N, 0, none⟩ = false := Bn3.frozen 0
      have fn1 : w3.frozen? ⟨N, 1, none⟩ = false := Bn3.frozen 1
      have fn2 : w3.frozen? ⟨N, 2, none⟩ = false := Bn3.frozen 2
      have fn3 : w3.frozen? ⟨N, 3, none⟩ = false := Bn3.frozen 3
      have fn4 : w3.frozen? ⟨N, 4, none⟩ = false := Bn3.frozen 4
      rcases (show r = 0 ∨ r = 1 ∨ r = 2 ∨ r = 3 by omega) with rfl | rfl | rfl | rfl
      · skip
        go_wp2_with fail
        refine Calls.mono (l5Add_any Q _ Q _ _ _ (⟨kd, 0, ⟨#[97, 98]⟩, 0, 0⟩ : Nd) _ _ X (R3.set hN0 hNQ hNv3 2 (.string ⟨#[97, 98]⟩)).nr (by omega)) ?_
        rintro e w9 ⟨rfl, v9, hk9, hn9⟩
        go_wp2
        go_ret
        exact ⟨_, v9, _, _, rfl, by simp only [List.length_append, List.length_cons, List.length_nil]; omega, Tr.leaf hb (setOk hk' (by simp)).1 (setOk hk' (by simp)).2 (by show kd ≤ 7; omega), by simp only [List.length_append, List.length_cons, List.length_nil, nq]; omega, ((R3.set hN0 hNQ hNv3 2 (.string ⟨#[97, 98]⟩)).add hn9).more (by simp only [tq]; omega), ((K1.trans (K2.trans K3)).mix (setCell_grown _ N 2 _) hNw).trans (Ks.kn hk9)⟩
      · skip
        go_wp2_with fail
        refine Calls.mono (l5Add_any Q _ Q _ _ _ (⟨kd, 0, ⟨#[99]⟩, 0, 0⟩ : Nd) _ _ X (R3.set hN0 hNQ hNv3 2 (.string ⟨#[99]⟩)).nr (by omega)) ?_
        rintro e w9 ⟨rfl, v9, hk9, hn9⟩
        go_wp2
        go_ret
        exact ⟨_, v9, _, _, rfl, by simp only [List.length_append, List.length_cons, List.length_nil]; omega, Tr.leaf hb (setOk hk' (by simp)).1 (setOk hk' (by simp)).2 (by show kd ≤ 7; omega), by simp only [List.length_append, List.length_cons, List.length_nil, nq]; omega, ((R3.set hN0 hNQ hNv3 2 (.string ⟨#[99]⟩)).add hn9).more (by simp only [tq]; omega), ((K1.trans (K2.trans K3)).mix (setCell_grown _ N 2 _) hNw).trans (Ks.kn hk9)⟩
      · skip
        go_wp2_with fail
        refine Calls.mono (l5Add_any Q _ Q _ _ _ (⟨kd, 0, ⟨#[32, 93, 94]⟩, 0, 0⟩ : Nd) _ _ X (R3.set hN0 hNQ hNv3 2 (.string ⟨#[32, 93, 94]⟩)).nr (by omega)) ?_
        rintro e w9 ⟨rfl, v9, hk9, hn9⟩
        go_wp2
        go_ret
        exact ⟨_, v9, _, _, rfl, by simp only [List.length_append, List.length_cons, List.length_nil]; omega, Tr.leaf hb (setOk hk' (by simp)).1 (setOk hk' (by simp)).2 (by show kd ≤ 7; omega), by simp only [List.length_append, List.length_cons, List.length_nil, nq]; omega, ((R3.set hN0 hNQ hNv3 2 (.string ⟨#[32, 93, 94]⟩)).add hn9).more (by simp only [tq]; omega), ((K1.trans (K2.trans K3)).mix (setCell_grown _ N 2 _) hNw).trans (Ks.kn hk9)⟩
      · skip
        go_wp2_with fail
        refine Calls.mono (l5Add_any Q _ Q _ _ _ (⟨kd, 0, ⟨#[98]⟩, 0, 0⟩ : Nd) _ _ X (R3.set hN0 hNQ hNv3 2 (.string ⟨#[98]⟩)).nr (by omega)) ?_
        rintro e w9 ⟨rfl, v9, hk9, hn9⟩
        go_wp2
        go_ret
        exact ⟨_, v9, _, _, rfl, by simp only [List.length_append, List.length_cons, List.length_nil]; omega, Tr.leaf hb (setOk hk' (by simp)).1 (setOk hk' (by simp)).2 (by show kd ≤ 7; omega), by simp only [List.length_append, List.length_cons, List.length_nil, nq]; omega, ((R3.set hN0 hNQ hNv3 2 (.string ⟨#[98]⟩)).add hn9).more (by simp only [tq]; omega), ((K1.trans (K2.trans K3)).mix (setCell_grown _ N 2 _) hNw).trans (Ks.kn hk9)⟩
  | f + 1, T, D, w, v, X, bs, hD, hf, hT, hX, R, hb => by
    have ih := fun (u : Unit) T' D' w' v' X' bs' => l5Make_any w0 B b Q f T' D' w' v' X' bs'
    have hbw := R.src.lt
    have hD0 : 0 < D := by omega
    simp only [nq] at hX
    simp only [tq] at hT
    go_enter Try.func160, Try.ntmps160
    go_wp2_with fail
    have hltwa := R.src.lt
    refine Calls.mono (l1Pick_any B b _ _ 9 [2, 2, 2, 3, 4, 5, 6, 7, 1] _ (R.src.alloc _) (by omega) rfl (by omega) (by omega) (by first | omega | (simp; omega)) (lit_at _ _ [2, 2, 2, 3, 4, 5, 6, 7, 1] 9 rfl 2 (by first | rfl | assumption | simp) (by simp [maxLen]))) ?_
    rintro e wa ⟨k0, rfl, hk0, hs, hc⟩
    obtain ⟨Ra, Ka⟩ := R.drawn hc hs
    clear hs hc
    clear hk0
    go_wp2_with fail
    have hltw1 := Ra.src.lt
    refine Calls.mono (l1Pick_any B b _ _ 7 [11, 11, 12, 8, 9, 10, 2] _ (Ra.src.alloc _) (by omega) rfl (by omega) (by omega) (by first | omega | (simp; omega)) (lit_at _ _ [11, 11, 12, 8, 9, 10, 2] 7 rfl 2 (by first | rfl | assumption | simp) (by simp [maxLen]))) ?_
    rintro e w1 ⟨kd, rfl, hk, hs, hc⟩
    obtain ⟨R1, Kb⟩ := Ra.drawn hc hs
    clear hs hc
    have K1 := Ka.trans Kb
    clear Ka Kb Ra
    have hk1 : kd = 2 ∨ (8 ≤ kd ∧ kd ≤ 10) ∨ (kd = 11 ∨ kd = 12) := by simp at hk; omega
    clear hk
    rcases hk1 with rfl | hk' | hk'
    · skip
      go_wp2_with fail
      obtain ⟨R2, Bn, K2, hNb, hNQ, hNv, hN0⟩ := R1.box #[.int .i64 2, .int .i64 0, .string ⟨#[]⟩, .int .i64 0, .int .i64 0] 151
      obtain ⟨W2, hW2⟩ : ∃ x, (w1.alloc (.cells #[.int .i64 2, .int .i64 0, .string ⟨#[]⟩, .int .i64 0, .int .i64 0] 151)) = x := ⟨_, rfl⟩
      have hWs : W2.heap.size = w1.heap.size + 1 := by rw [← hW2]; simp
      rw [hW2] at R2 Bn K2 ⊢
      clear hW2
      obtain ⟨N, hN⟩ : ∃ x, w1.heap.size = x := ⟨_, rfl⟩
      rw [hN] at Bn hNb hNQ hNv hN0 hWs ⊢
      have hNw : w.heap.size ≤ N := by have := K1.1; omega
      have hltw3 := R2.src.lt
      refine Calls.mono (l1Pick_any B b _ _ 6 [97, 98, 99, 32, 42, 92] _ (R2.src.alloc _) (by omega) rfl (by omega) (by omega) (by first | omega | (simp; omega)) (lit_at _ _ [97, 98, 99, 32, 42, 92] 6 rfl 2 (by first | rfl | assumption | simp) (by simp [maxLen]))) ?_
      rintro e w3 ⟨ch, rfl, hch, hs, hc⟩
      obtain ⟨R3, K3⟩ := R2.drawn hc hs
      clear hs hc
      obtain ⟨Bn3, hNv3⟩ := K3.blk Bn hNb hNQ hNv
      have cn0 : w3.cell? ⟨N, 0, none⟩ = some (Value.int .i64 2) := by have := Bn3.cell 0; simpa using this
      have cn1 : w3.cell? ⟨N, 1, none⟩ = some (Value.int .i64 0) := by have := Bn3.cell 1; simpa using this
      have cn2 : w3.cell? ⟨N, 2, none⟩ = some (Value.string ⟨#[]⟩) := by have := Bn3.cell 2; simpa using this
      have cn3 : w3.cell? ⟨N, 3, none⟩ = some (Value.int .i64 0) := by have := Bn3.cell 3; simpa using this
      have cn4 : w3.cell? ⟨N, 4, none⟩ = some (Value.int .i64 0) := by have := Bn3.cell 4; simpa using this
      have fn0 : w3.frozen? ⟨N, 0, none⟩ = false := Bn3.frozen 0
      have fn1 : w3.frozen? ⟨N, 1, none⟩ = false := Bn3.frozen 1
      have fn2 : w3.frozen? ⟨N, 2, none⟩ = false := Bn3.frozen 2
      have fn3 : w3.frozen? ⟨N, 3, none⟩ = false := Bn3.frozen 3
      have fn4 : w3.frozen? ⟨N, 4, none⟩ = false := Bn3.frozen 4
      go_wp2_with fail
      refine Calls.mono (l5Add_any Q _ Q _ _ _ (⟨2, ch, ⟨#[]⟩, 0, 0⟩ : Nd) _ _ X (R3.set hN0 hNQ hNv3 1 (.int .i64 ch)).nr (by omega)) ?_
      rintro e w9 ⟨rfl, v9, hk9, hn9⟩
      go_wp2
      go_ret
      exact ⟨_, v9, _, _, rfl, by simp only [List.length_append, List.length_cons, List.length_nil]; omega, Tr.leaf hb (charOk hch).1 (charOk hch).2 (by show (2 : Int) ≤ 7; omega), by simp only [List.length_append, List.length_cons, List.length_nil, nq]; omega, ((R3.set hN0 hNQ hNv3 1 (.int .i64 ch)).add hn9).more (by simp only [tq]; omega), ((K1.trans (K2.trans K3)).mix (setCell_grown _ N 1 _) hNw).trans (Ks.kn hk9)⟩
    · skip
      have q2 : ¬ kd = 2 := by omega
      go_wp2_with fail
      obtain ⟨R2, Bn, K2, hNb, hNQ, hNv, hN0⟩ := R1.box #[.int .i64 kd, .int .i64 0, .string ⟨#[]⟩, .int .i64 0, .int .i64 0] 151
      obtain ⟨W2, hW2⟩ : ∃ x, (w1.alloc (.cells #[.int .i64 kd, .int .i64 0, .string ⟨#[]⟩, .int .i64 0, .int .i64 0] 151)) = x := ⟨_, rfl⟩
      have hWs : W2.heap.size = w1.heap.size + 1 := by rw [← hW2]; simp
      rw [hW2] at R2 Bn K2 ⊢
      clear hW2
      obtain ⟨N, hN⟩ : ∃ x, w1.heap.size = x := ⟨_, rfl⟩
      rw [hN] at Bn hNb hNQ hNv hN0 hWs ⊢
      have hNw : w.heap.size ≤ N := by have := K1.1; omega
      refine (l5Has_is _ false _ (by simp; omega)).mono ?_
      rintro e wq ⟨rfl, hwq⟩
      have hwq2 := hwq.symm
      subst hwq2
      clear hwq
      go_wp2_with fail
      refine (l5One_is _ true _ (by simp; try omega)).mono ?_
      rintro e wq ⟨rfl, hwq⟩
      have hwq2 := hwq.symm
      subst hwq2
      clear hwq
      go_wp2_with fail
      have ih3 := ih () (T + 1 + 1) (f : Int) W2 v X bs rfl (by omega) (by omega) (by omega) R2 hb
      refine Calls.mono ih3 ?_
      rintro e w3 ⟨p3, v3, X3, b3, rfl, hp3, hTr3, hlen3, R3, K3⟩
      have HP3 := hid hp3
      clear ih3 hp3
      obtain ⟨Bn3, hNv3⟩ := K3.blk Bn hNb hNQ hNv
      have cn0 : w3.cell? ⟨N, 0, none⟩ = some (Value.int .i64 kd) := by have := Bn3.cell 0; simpa using this
      have cn1 : w3.cell? ⟨N, 1, none⟩ = some (Value.int .i64 0) := by have := Bn3.cell 1; simpa using this
      have cn2 : w3.cell? ⟨N, 2, none⟩ = some (Value.string ⟨#[]⟩) := by have := Bn3.cell 2; simpa using this
      have cn3 : w3.cell? ⟨N, 3, none⟩ = some (Value.int .i64 0) := by have := Bn3.cell 3; simpa using this
      have cn4 : w3.cell? ⟨N, 4, none⟩ = some (Value.int .i64 0) := by have := Bn3.cell 4; simpa using this
      have fn0 : w3.frozen? ⟨N, 0, none⟩ = false := Bn3.frozen 0
      have fn1 : w3.frozen? ⟨N, 1, none⟩ = false := Bn3.frozen 1
      have fn2 : w3.frozen? ⟨N, 2, none⟩ = false := Bn3.frozen 2
      have fn3 : w3.frozen? ⟨N, 3, none⟩ = false := Bn3.frozen 3
      have fn4 : w3.frozen? ⟨N, 4, none⟩ = false := Bn3.frozen 4
      go_wp2_with fail
      refine Calls.mono (l5Add_any Q _ Q _ _ _ (⟨kd, 0, ⟨#[]⟩, p3, 0⟩ : Nd) _ _ X3 (R3.set hN0 hNQ hNv3 3 (.int .i64 p3)).nr (by omega)) ?_
      rintro e w9 ⟨rfl, v9, hk9, hn9⟩
      go_wp2
      go_ret
      exact ⟨_, v9, _, _, rfl, by simp only [List.length_append, List.length_cons, List.length_nil]; omega, Tr.one hTr3 (oneOk hk').1 (oneOk hk').2 hk' HP3.out, by simp only [List.length_append, List.length_cons, List.length_nil, nq]; omega, ((R3.set hN0 hNQ hNv3 3 (.int .i64 p3)).add hn9).more (by simp only [tq]; omega), ((K1.trans (K2.trans K3)).mix (setCell_grown _ N 3 _) hNw).trans (Ks.kn hk9)⟩
    · skip
      have q2 : ¬ kd = 2 := by omega
      go_wp2_with fail
      obtain ⟨R2, Bn, K2, hNb, hNQ, hNv, hN0⟩ := R1.box #[.int .i64 kd, .int .i64 0, .string ⟨#[]⟩, .int .i64 0, .int .i64 0] 151
      obtain ⟨W2, hW2⟩ : ∃ x, (w1.alloc (.cells #[.int .i64 kd, .int .i64 0, .string ⟨#[]⟩, .int .i64 0, .int .i64 0] 151)) = x := ⟨_, rfl⟩
      have hWs : W2.heap.size = w1.heap.size + 1 := by rw [← hW2]; simp
      rw [hW2] at R2 Bn K2 ⊢
      clear hW2
      obtain ⟨N, hN⟩ : ∃ x, w1.heap.size = x := ⟨_, rfl⟩
      rw [hN] at Bn hNb hNQ hNv hN0 hWs ⊢
      have hNw : w.heap.size ≤ N := by have := K1.1; omega
      refine (l5Has_is _ false _ (by simp; omega)).mono ?_
      rintro e wq ⟨rfl, hwq⟩
      have hwq2 := hwq.symm
      subst hwq2
      clear hwq
      go_wp2_with fail
      refine (l5One_is _ false _ (by simp; try omega)).mono ?_
      rintro e wq ⟨rfl, hwq⟩
      have hwq2 := hwq.symm
      subst hwq2
      clear hwq
      go_wp2_with fail
      refine (l5Two_is _ true _ (by simp; try omega)).mono ?_
      rintro e wq ⟨rfl, hwq⟩
      have hwq2 := hwq.symm
      subst hwq2
      clear hwq
      go_wp2_with fail
      have ih3 := ih () (T + 1 + 1) (f : Int) W2 v X bs rfl (by omega) (by omega) (by omega) R2 hb
      refine Calls.mono ih3 ?_
      rintro e w3 ⟨p3, v3, X3, b3, rfl, hp3, hTr3, hlen3, R3, K3⟩
      have HP3 := hid hp3
      clear ih3 hp3
      obtain ⟨Bn3, hNv3⟩ := K3.blk Bn hNb hNQ hNv
      have cn0 : w3.cell? ⟨N, 0, none⟩ = some (Value.int .i64 kd) := by have := Bn3.cell 0; simpa using this
      have cn1 : w3.cell? ⟨N, 1, none⟩ = some (Value.int .i64 0) := by have := Bn3.cell 1; simpa using this
      have cn2 : w3.cell? ⟨N, 2, none⟩ = some (Value.string ⟨#[]⟩) := by have := Bn3.cell 2; simpa using this
      have cn3 : w3.cell? ⟨N, 3, none⟩ = some (Value.int .i64 0) := by have := Bn3.cell 3; simpa using this
      have cn4 : w3.cell? ⟨N, 4, none⟩ = some (Value.int .i64 0) := by have := Bn3.cell 4; simpa using this
      have fn0 : w3.frozen? ⟨N, 0, none⟩ = false := Bn3.frozen 0
      have fn1 : w3.frozen? ⟨N, 1, none⟩ = false := Bn3.frozen 1
      have fn2 : w3.frozen? ⟨N, 2, none⟩ = false := Bn3.frozen 2
      have fn3 : w3.frozen? ⟨N, 3, none⟩ = false := Bn3.frozen 3
      have fn4 : w3.frozen? ⟨N, 4, none⟩ = false := Bn3.frozen 4
      go_wp2_with fail
      have R4 := R3.set hN0 hNQ hNv3 3 (.int .i64 p3)
      have B4 := Bn3.set (i := 3) (.int .i64 p3)
      simp only [List.setIfInBounds_toArray, List.set_cons_succ, List.set_cons_zero] at B4
      obtain ⟨W4, hW4⟩ : ∃ x, (w3.setCell ⟨N, 3, none⟩ (.int .i64 p3)) = x := ⟨_, rfl⟩
      have K4 : Ks b Q v w v3 W4 := hW4 ▸ (K1.trans (K2.trans K3)).mix (setCell_grown _ N 3 _) hNw
      rw [hW4] at R4 B4 ⊢
      clear hW4 cn0 fn0 cn1 fn1 cn2 fn2 cn3 fn3 cn4 fn4
      have ih5 := ih () (T + 1 + 1 + tq f) (f : Int) W4 v3 X3 b3 rfl (by omega) (by omega) (by omega) R4 hTr3.beg
      refine Calls.mono ih5 ?_
      rintro e w5 ⟨p5, v5, X5, b5, rfl, hp5, hTr5, hlen5, R5, K5⟩
      have HP5 := hid hp5
      clear ih5 hp5
      obtain ⟨Bn5, hNv5⟩ := K5.blk B4 hNb hNQ hNv3
      have cn0 : w5.cell? ⟨N, 0, none⟩ = some (Value.int .i64 kd) := by have := Bn5.cell 0; simpa using this
      have cn1 : w5.cell? ⟨N, 1, none⟩ = some (Value.int .i64 0) := by have := Bn5.cell 1; simpa using this
      have cn2 : w5.cell? ⟨N, 2, none⟩ = some (Value.string ⟨#[]⟩) := by have := Bn5.cell 2; simpa using this
      have cn3 : w5.cell? ⟨N, 3, none⟩ = some (Value.int .i64 p3) := by have := Bn5.cell 3; simpa using this
      have cn4 : w5.cell? ⟨N, 4, none⟩ = some (Value.int .i64 0) := by have := Bn5.cell 4; simpa using this
      have fn0 : w5.frozen? ⟨N, 0, none⟩ = false := Bn5.frozen 0
      have fn1 : w5.frozen? ⟨N, 1, none⟩ = false := Bn5.frozen 1
      have fn2 : w5.frozen? ⟨N, 2, none⟩ = false := Bn5.frozen 2
      have fn3 : w5.frozen? ⟨N, 3, none⟩ = false := Bn5.frozen 3
      have fn4 : w5.frozen? ⟨N, 4, none⟩ = false := Bn5.frozen 4
      go_wp2_with fail
      refine Calls.mono (l5Add_any Q _ Q _ _ _ (⟨kd, 0, ⟨#[]⟩, p3, p5⟩ : Nd) _ _ X5 (R5.set hN0 hNQ hNv5 4 (.int .i64 p5)).nr (by omega)) ?_
      rintro e w9 ⟨rfl, v9, hk9, hn9⟩
      go_wp2
      go_ret
      exact ⟨_, v9, _, _, rfl, by simp only [List.length_append, List.length_cons, List.length_nil]; omega, Tr.two hTr3 hTr5 (twoOk hk').1 (twoOk hk').2 hk' HP3.out HP5.out, by simp only [List.length_append, List.length_cons, List.length_nil, nq]; omega, ((R5.set hN0 hNQ hNv5 4 (.int .i64 p5)).add hn9).more (by simp only [tq]; omega), ((K4.trans K5).mix (setCell_grown _ N 4 _) hNw).trans (Ks.kn hk9)⟩
end Go.Proofs.Ytocophekfbhfbaa

namespace Go.Proofs.Ytocophekfbhfbaa
open Go.RowKit
set_option linter.unusedVariables false
set_option linter.unusedSimpArgs false

set_option maxHeartbeats 3200000 in
theorem l5Right_any (B b T : Nat) (w : World) (hs : Src w B b T) (hT : T ≤ 100000) :
    Calls Try.prog 90 #[.pointer (some ⟨b, 0, none⟩)] w fun e w' => ∃ v ns, e = .returned v ∧ OwnR ndE 5 151 w' w.heap.size v ns.length ns ∧ nodesFault ns = 0 ∧ Src w' B b (T + 100) ∧ w.grownBy w' (some b) := by
  have hlt := hs.lt
  go_enter Try.func90, Try.ntmps90
  go_wp2_with fail
  have R0 : Rr w B b w.heap.size T (w.alloc (.cells #[.string ⟨#[]⟩, .int .i64 0, .slice none 0 0, .bool false] 223)) (.slice none 0 0) [] :=
    ⟨Blk.new _ _ _, OwnR.nil _ _ _ _ _, World.grownBy_alloc w _ _, hs.alloc _, Nat.le_refl _, hlt⟩
  obtain ⟨W1, hW1⟩ : ∃ x, (w.alloc (.cells #[.string ⟨#[]⟩, .int .i64 0, .slice none 0 0, .bool false] 223)) = x := ⟨_, rfl⟩
  have hWs : W1.heap.size = w.heap.size + 1 := by rw [← hW1]; simp
  rw [hW1] at R0 ⊢
  clear hW1
  have hlt1 := R0.src.lt
  refine Calls.mono (l1Pick_any B b _ _ 4 [1, 2, 2, 3] _ (R0.src.alloc _) (by omega) rfl (by omega) (by omega) (by first | omega | (simp; omega)) (lit_at _ _ [1, 2, 2, 3] 4 rfl 2 (by first | rfl | assumption | simp) (by simp [maxLen]))) ?_
  rintro e w2 ⟨dp, rfl, hdp, hs2, hc⟩
  obtain ⟨R2, -⟩ := R0.drawn hc hs2
  obtain ⟨f, hf, hf3, hn, hq⟩ : ∃ f : Nat, dp = (f : Int) ∧ f ≤ 3 ∧ nq f ≤ 15 ∧ tq f ≤ 60 := by
    have : dp = 1 ∨ dp = 2 ∨ dp = 3 := by simp at hdp; omega
    rcases this with rfl | rfl | rfl
    · exact ⟨1, rfl, by omega, by decide, by decide⟩
    · exact ⟨2, rfl, by omega, by decide, by decide⟩
    · exact ⟨3, rfl, by omega, by decide, by decide⟩
  have HF := hid hf
  clear hdp hf hs2 hc
  have mk := l5Make_any w B b w.heap.size f (T + 1) dp w2 (.slice none 0 0) [] [] HF.out (by omega) (by omega) (by simp; omega) R2 (Beg.zero _)
  go_wp2_with fail
  refine Calls.mono mk ?_
  rintro e w3 ⟨p, v3, X3, b3, rfl, -, hTr, hlen, R3, -⟩
  have c2 : w3.cell? ⟨w.heap.size, 2, none⟩ = some v3 := by have := R3.blk.cell 2; simpa using this
  simp only [List.length_nil, Nat.zero_add] at hlen
  clear mk
  go_wp2
  go_ret
  exact ⟨v3, X3, rfl, R3.own.up (by omega), hTr.fault (by omega), R3.src.more (by omega), R3.grown⟩

theorem cod_size {ns : List Nd} {m : Nat} (h : ∀ n ∈ ns, n.s.size ≤ m) : ∀ (f here p : Nat), ∀ i ∈ cod ns f here p, i.s.size ≤ m
  | 0, here, p => by simp [cod]
  | f + 1, here, p => by
    have ih := fun here p => cod_size h f here p
    intro i hi
    rw [cod] at hi
    have h0 : ∀ o x y : Int, (nI o x y).s.size ≤ m := fun _ _ _ => Nat.zero_le _
    cases hx : ns[p]? with
    | none => rw [hx] at hi; simp at hi
    | some n =>
      rw [hx] at hi
      simp only at hi
      have hn := h n (List.mem_of_getElem? hx)
      repeat' split at hi
      all_goals simp only [List.mem_append, List.mem_cons, List.not_mem_nil, or_false] at hi
      all_goals first
        | (subst hi; first | exact h0 _ _ _ | exact hn)
        | (rcases hi with hi | hi | hi | hi <;> first | (subst hi; exact h0 _ _ _) | exact ih _ _ _ hi)
        | (rcases hi with hi | hi | hi <;> first | (subst hi; exact h0 _ _ _) | exact ih _ _ _ hi)
        | (rcases hi with hi | hi <;> first | (subst hi; exact h0 _ _ _) | exact ih _ _ _ hi)

theorem nodes_size {ns : List Nd} (h : nodesFault ns = 0) : ∀ n ∈ ns, n.s.size ≤ 20 := by
  obtain ⟨h1, h2, bs, hb⟩ := tree_of h
  intro n hn
  obtain ⟨p, hp⟩ := List.getElem?_of_mem hn
  have hlt := (List.getElem?_eq_some_iff.1 hp).1
  obtain ⟨a1, a2, -⟩ := hb.at_ p n hlt hp
  unfold rangeB at a2
  by_cases hk : n.k = 4 ∨ n.k = 5
  · rw [if_neg (by omega), if_pos hk] at a2
    unfold setB at a2
    simp only [Bool.and_eq_true, decide_eq_true_eq] at a2
    exact a2.1.1.2
  · rcases a1.2.2.1 with h | h | h
    · omega
    · omega
    · rw [h]; exact Nat.zero_le _

theorem comp_facts {ns : List Nd} (h : nodesFault ns = 0) : 1 ≤ (comp ns).length ∧ (comp ns).length ≤ 49 ∧ ∀ i ∈ comp ns, i.s.size ≤ 20 := by
  obtain ⟨h1, h2, bs, hb⟩ := tree_of h
  have hl := cod_len hb rfl (ns.length + 1) 0 (ns.length - 1) (by omega) (by omega)
  have hbd := hb.bd (Nat.le_refl _) (i := ns.length - 1) (by omega)
  unfold comp
  refine ⟨by simp, by simp only [List.length_append, List.length_cons, List.length_nil]; omega, fun i hi => ?_⟩
  rcases List.mem_append.1 hi with hi | hi
  · exact cod_size (nodes_size h) _ _ _ i hi
  · simp at hi; subst hi; exact Nat.zero_le _

theorem inSum_le {m : Nat} : ∀ {ps : List In}, (∀ i ∈ ps, i.s.size ≤ m) → inSum ps ≤ m * ps.length
  | [], _ => by simp [inSum]
  | p :: ps, h => by
    have h1 := h p (List.mem_cons_self ..)
    have h2 := inSum_le (ps := ps) (fun i hi => h i (List.mem_cons_of_mem _ hi))
    have e : inSum (p :: ps) = p.s.size + inSum ps := by simp [inSum]
    rw [e, List.length_cons, Nat.mul_add]
    omega

/-- A program of its own, drawn from the source at b; w0: the world at the beginning. -/
structure Pg (w0 : World) (B b T : Nat) (w : World) (v : Value) (ps : List In) : Prop where
  own : OwnR inE 8 252 w w0.heap.size v ps.length ps
  grown : w0.grownBy w (some b)
  src : Src w B b T
  lt : b < w0.heap.size
  len : ps.length ≤ 81
  small : ∀ i ∈ ps, i.s.size ≤ 20
section
variable {w0 w w1 : World} {B b T T1 : Nat} {v : Value} {ps : List In}
theorem Pg.draw (h : Pg w0 B b T w v ps) (hg : w.grownBy w1 (some b)) (hs : Src w1 B b T1) : Pg w0 B b T1 w1 v ps := by
  have h2 := h.lt
  exact ⟨h.own.kept hg (fun j hj e => by have := (h.own.lt j hj).1; have := Option.some.inj e; omega), grown_trans h.grown hg, hs, h2, h.len, h.small⟩
theorem Pg.drawn {o : Obj} (h : Pg w0 B b T w v ps) (hg : (w.alloc o).grownBy w1 (some b)) (hs : Src w1 B b T1) : Pg w0 B b T1 w1 v ps := h.draw (grownBy_alloc_trans hg) hs
theorem Pg.more (h : Pg w0 B b T w v ps) (hT : T ≤ T1) : Pg w0 B b T1 w v ps := ⟨h.own, h.grown, h.src.more hT, h.lt, h.len, h.small⟩
theorem Pg.store {g cap i f : Nat} {x y : In} {u : Value} (h : Pg w0 B b T w (.slice (some ⟨g, 0, none⟩) ps.length cap) ps) (hx : ps[i]? = some x) (hf : f < 8) (hy : inE y = (inE x).set f u) (hys : y.s = x.s) :
    Pg w0 B b T (w.setCell ⟨g, i * 8 + f, none⟩ u) (.slice (some ⟨g, 0, none⟩) ps.length cap) (ps.set i y) := by
  have h2 := h.lt
  have hg := (h.own.lt g rfl).1
  have hB := h.src.1
  obtain ⟨ho, hgr⟩ := OwnR.store inE_len h.own hx hf hy
  refine ⟨by rw [List.length_set]; exact ho, grown_mix h.grown hgr (fun j hj => by have := Option.some.inj hj; omega), h.src.kept hgr (fun j hj => by have := Option.some.inj hj; omega), h2, by rw [List.length_set]; exact h.len, fun z hz => ?_⟩
  rcases List.mem_or_eq_of_mem_set hz with hz | hz
  · exact h.small z hz
  · rw [hz, hys]; exact h.small x (List.mem_of_getElem? hx)
end

theorem made_in (n : Nat) : (madeCells #[.int .i64 0, .int .i64 0, .int .i64 0, .string ⟨#[]⟩, .int .i64 0, .int .i64 0, .int .i64 0, .int .i64 0] 648).toList = (List.replicate 81 (nI 0 0 0)).flatMap inE := by kernel_rfl

set_option maxHeartbeats 6400000 in
set_option maxRecDepth 20000 in
theorem l7Bent_any (B b T : Nat) (w : World) (hs : Src w B b T) (hT : T ≤ 100000) :
    Calls Try.prog 133 #[.pointer (some ⟨b, 0, none⟩)] w fun e w' => ∃ v ps, e = .returned v ∧ Pg w B b (T + 200) w' v ps := by
  have hlt := hs.lt
  obtain ⟨i0, hi, hz0, hz1, hz2⟩ := info_parts infoInE
  go_enter Try.func133, Try.ntmps133
  go_wp2_with fail
  refine Calls.mono (l5Right_any B b T _ hs hT) ?_
  rintro e w1 ⟨v1, ns, rfl, ho1, hf, hs1, hg1⟩
  obtain ⟨a1, k1, rfl, hr1, -, -⟩ := ho1.rd ndE_len
  go_wp2_with fail
  refine Calls.mono (l7Compile_any a1 _ k1 ns hf _ hr1) ?_
  rintro e w2 ⟨v2, rfl, ho2, hb2⟩
  obtain ⟨hc1, hc2, hc3⟩ := comp_facts hf
  have P2 : Pg w B b (T + 100) w2 v2 (comp ns) := ⟨ho2.up hg1.size, grown_trans hg1 (grown_none (grownBy_of_below hb2)), hs1.kept (grownBy_of_below hb2) (by simp), hlt, by omega, hc3⟩
  generalize comp ns = ps at *
  obtain ⟨g, cap, rfl⟩ := own_addr ho2 (by omega)
  clear ho2 hb2 hr1 ho1 hs1 hg1 hf hc3
  go_wp2_with fail
  refine Calls.mono (l1Next_any B b _ _ _ P2.src (by omega) (by omega)) ?_
  rintro e w3 ⟨i, rfl, hi3, hs, hc⟩
  obtain ⟨hi1, hi2⟩ := hi3.2 (by omega)
  have P3 := P2.draw hc hs
  clear hs hc hi3 P2
  obtain ⟨i, rfl⟩ := Int.eq_ofNat_of_zero_le hi1
  obtain ⟨x, hx⟩ : ∃ x, ps[i]? = some x := ⟨_, List.getElem?_eq_getElem (by omega)⟩
  go_wp2_with fail
  refine Calls.mono (l1Next_any B b _ 14 _ P3.src (by omega) (by omega)) ?_
  rintro e w4 ⟨q, rfl, hq, hs, hc⟩
  obtain ⟨hq1, hq2⟩ := hq.2 (by omega)
  have P4 := P3.draw hc hs
  clear hs hc hq P3
  have hat := hx
  obtain ⟨o, k, c, s, l, r, u, y⟩ := x
  have hnq : (i : Int) < (ps.length : Int) := by omega
  rcases (show q = 0 ∨ q = 1 ∨ q = 2 ∨ q = 3 ∨ q = 4 ∨ 5 ≤ q by omega) with rfl | rfl | rfl | rfl | rfl | hq5
  · skip
    go_wp2_with fail
    have hltw5 := P4.src.lt
    refine Calls.mono (l1Pick_any B b _ _ 5 [0, 2, 3, 6, 7] _ (P4.src.alloc _) (by omega) rfl (by omega) (by omega) (by first | omega | (simp; omega)) (lit_at _ _ [0, 2, 3, 6, 7] 5 rfl 2 (by first | rfl | assumption | simp) (by simp [maxLen]))) ?_
    rintro e w5 ⟨z, rfl, hz, hs, hc⟩
    have P5 := P4.drawn hc hs
    clear hs hc
    have d5 := OwnR.cell (f := 0) inE_len P5.own hat rfl
    have f5 := P5.own.frozen (i * 8 + 0)
    rw [Nat.add_zero] at d5 f5
    have P6 := P5.store (f := 0) (u := .int .i64 z) (y := ⟨z, k, c, s, l, r, u, y⟩) hat (by omega) rfl rfl
    rw [Nat.add_zero] at P6
    have HP6 := hid P6
    clear P6 hat hz
    go_wp2
    go_ret
    exact ⟨_, _, rfl, HP6.out.more (by omega)⟩
  · skip
    go_wp2_with fail
    have hltw5 := P4.src.lt
    refine Calls.mono (l1Pick_any B b _ _ 4 [0, 1, 80, -1] _ (P4.src.alloc _) (by omega) rfl (by omega) (by omega) (by first | omega | (simp; omega)) (lit_at _ _ [0, 1, 80, -1] 4 rfl 2 (by first | rfl | assumption | simp) (by simp [maxLen]))) ?_
    rintro e w5 ⟨z, rfl, hz, hs, hc⟩
    have P5 := P4.drawn hc hs
    clear hs hc
    have d5 := OwnR.cell (f := 6) inE_len P5.own hat rfl
    have f5 := P5.own.frozen (i * 8 + 6)
    have P6 := P5.store (f := 6) (u := .int .i64 z) (y := ⟨o, k, c, s, l, r, z, y⟩) hat (by omega) rfl rfl
    have HP6 := hid P6
    clear P6 hat hz
    go_wp2
    go_ret
    exact ⟨_, _, rfl, HP6.out.more (by omega)⟩
  · skip
    go_wp2_with fail
    have hltw5 := P4.src.lt
    refine Calls.mono (l1Pick_any B b _ _ 2 [97, 31] _ (P4.src.alloc _) (by omega) rfl (by omega) (by omega) (by first | omega | (simp; omega)) (lit_at _ _ [97, 31] 2 rfl 2 (by first | rfl | assumption | simp) (by simp [maxLen]))) ?_
    rintro e w5 ⟨z, rfl, hz, hs, hc⟩
    have P5 := P4.drawn hc hs
    clear hs hc
    have d5 := OwnR.cell (f := 2) inE_len P5.own hat rfl
    have f5 := P5.own.frozen (i * 8 + 2)
    have P6 := P5.store (f := 2) (u := .int .i64 z) (y := ⟨o, k, z, s, l, r, u, y⟩) hat (by omega) rfl rfl
    have HP6 := hid P6
    clear P6 hat hz
    go_wp2
    go_ret
    exact ⟨_, _, rfl, HP6.out.more (by omega)⟩
  · go_wp2_with (at_make; refine wpList_make_full _ rfl _ _ 59 rfl w4.heap.size 252 i0 _ 8 Try.underlying59 hi hz0 hz1 _ _ _ _ 81 rfl rfl rfl rfl (by rw [hz2]; omega) (by unfold maxLen; omega) (Nat.le_refl _) ?_)
    intro w5 hown1 hgrow1
    rw [made_in 81] at hown1
    have ho5 : OwnR inE 8 252 w5 w4.heap.size (.slice (some ⟨w4.heap.size, 0, none⟩) 81 81) (List.replicate 81 (nI 0 0 0)).length (List.replicate 81 (nI 0 0 0)) := ⟨rfl, by rw [List.length_replicate]; exact hown1⟩
    have P5 : Pg w B b _ w5 _ (List.replicate 81 (nI 0 0 0)) := ⟨ho5.up P4.grown.size, grown_trans P4.grown (grown_none hgrow1), P4.src.kept hgrow1 (by simp), hlt, by simp, fun z hz => by rw [List.eq_of_mem_replicate hz]; exact Nat.zero_le _⟩
    have HP5 := hid P5
    clear hown1 hgrow1 ho5 P5 hat hx
    go_wp2
    go_ret
    exact ⟨_, _, rfl, HP5.out.more (by omega)⟩
  · go_wp2_with fail
    refine Calls.mono (l1Next_any B b _ _ _ P4.src (by omega) (by omega)) ?_
    rintro e w5 ⟨z, rfl, hz, hs, hc⟩
    have P5 := P4.draw hc hs
    clear hs hc
    obtain ⟨x0, hx0⟩ : ∃ x, ps[0]? = some x := ⟨_, List.getElem?_eq_getElem (by omega)⟩
    obtain ⟨o', k', c', s', l', r', u', y'⟩ := x0
    have d5 := OwnR.cell (f := 6) inE_len P5.own hx0 rfl
    have f5 := P5.own.frozen (0 * 8 + 6)
    have P6 := P5.store (f := 6) (u := .int .i64 z) (y := ⟨o', k', c', s', l', r', z, y'⟩) hx0 (by omega) rfl rfl
    rw [show 0 * 8 + 6 = 6 by omega] at d5 f5 P6
    have HP6 := hid P6
    have hn0 : (0 : Int) < (ps.length : Int) := by omega
    clear P6 hat hx hx0
    go_wp2
    go_ret
    exact ⟨_, _, rfl, HP6.out.more (by omega)⟩
  · have q0 : ¬ q = 0 := by omega
    have q1 : ¬ q = 1 := by omega
    have q2 : ¬ q = 2 := by omega
    have q3 : ¬ q = 3 := by omega
    have q4 : ¬ q = 4 := by omega
    have HP4 := hid P4
    clear hat hx
    go_wp2
    go_ret
    exact ⟨_, _, rfl, HP4.out.more (by omega)⟩

theorem lit5D_rd (w : World) (k : Int) (e : TypeId) : Rd .i64 (w.alloc (.cells #[.int .i64 k] e)) (some ⟨w.heap.size, 0, none⟩) 1 [k] := lit_rd w [k] 1 rfl (by simp [maxLen])

set_option maxHeartbeats 6400000 in
set_option maxRecDepth 20000 in
theorem l7DrawSet_any (B b T n : Nat) (w : World) (hs : Src w B b T) (hT : T ≤ 100000) (hn : n ≤ 1000) :
    Calls Try.prog 128 #[.pointer (some ⟨b, 0, none⟩), .int .i64 (n : Int)] w fun e w' => ∃ v xs, e = .returned v ∧ Own .i64 2 w' w.heap.size v xs.length xs ∧ xs.length ≤ n + 1 ∧ Src w' B b (T + n + 2) ∧ w.grownBy w' (some b) := by
  have hlt := hs.lt
  have hB := hs.1
  obtain ⟨i0, hi, hz0, hz1, hz2⟩ := info_parts info64n
  go_enter Try.func128, Try.ntmps128
  go_wp2_with fail
  have hn0 : Own .i64 2 (w.alloc (.cells #[] 2)) w.heap.size (.slice (some ⟨w.heap.size, 0, none⟩) 0 0) 0 [] := own_lit (k := .i64) (e := 2) w #[] 0 w.heap.size [] rfl rfl (Nat.le_refl _) (by simp [maxLen])
  go_loopw [5, 6] (fun v i wr => ∃ (k : Nat) (ys : List Int), k ≤ n ∧ i = .int .i64 k ∧ Own .i64 2 wr w.heap.size v ys.length ys ∧ ys.length ≤ k ∧ Src wr B b (T + k) ∧ w.grownBy wr (some b)) (fun _ i _ => n - (intOf i).toNat)
  case atStart => exact ⟨0, [], Nat.zero_le _, rfl, hn0, Nat.le_refl _, hs.alloc _, World.grownBy_alloc w _ _⟩
  case round =>
    obtain ⟨k, ys, hk, rfl, ho, hyl, hsr, hgr⟩ := hrel
    have hzr := hgr.size
    clear hn0
    by_cases hkn : k < n
    · have hkn' : (k : Int) < (n : Int) := by omega
      go_wp2_with fail
      refine Calls.mono (l1Chance_any B b _ 3 _ hsr (by omega) (by omega)) ?_
      rintro e w2 ⟨q, rfl, hs2, hg2⟩
      have lo := ho.lt
      have ho2 := ho.kept hg2 (fun j hj e => by have := (lo j hj).1; have := Option.some.inj e; omega)
      have hgr2 := grown_trans hgr hg2
      have hz2' := hgr2.size
      clear ho hsr hgr hg2 lo
      cases q
      · have HO := hid ho2
        have HS := hid hs2
        clear ho2 hs2
        go_wp2
        go_roundw
        case rel => exact ⟨k + 1, ys, by omega, by go_num, HO.out, by omega, HS.out.more (by omega), hgr2⟩
        case measure => simp [intOf]; omega
      · obtain ⟨va, vc, hv, hrd, hvm⟩ := ho2.rd
        subst hv
        have lo := ho2.lt
        go_wp2_with (at_builtin; refine wpList_append_rd rfl _ _ 60 rfl .i64 w.heap.size 2 i0 8 Try.underlying60 hi hz0 hz1 hz2 _ _ ys rfl (World.ownsRow.alloc ho2 _) (some ⟨w2.heap.size, 0, none⟩) 1 1 [(k : Int)] rfl (lit5D_rd w2 (k : Int) _) (by simp [maxLen]; omega) (by omega) (by simp; omega) ?_)
        intro v5 w5 ho5 hg5
        have hs5 := (hs2.alloc (.cells #[.int .i64 (k : Int)] 2)).kept hg5 (fun j hj => by have := (lo j hj).1; omega)
        have hg05 : w.grownBy w5 (some b) := grown_mix (grown_trans hgr2 (World.grownBy_alloc w2 (.cells #[.int .i64 (k : Int)] 2) (some b))) hg5 (fun j hj => (lo j hj).1)
        have HO : Hid (Own .i64 2 w5 w.heap.size v5 (ys ++ [(k : Int)]).length (ys ++ [(k : Int)])) := by rw [List.length_append]; exact ho5
        have HS := hid hs5
        clear ho5 hg5 hs5 hs2 ho2 hgr2 hrd hvm lo
        go_wp2
        go_roundw
        case rel => exact ⟨k + 1, _, by omega, by go_num, HO.out, by rw [List.length_append]; simp; omega, HS.out.more (by omega), hg05⟩
        case measure => simp [intOf]; omega
    · obtain rfl : k = n := by omega
      go_wp2_with fail
      refine Calls.mono (l1Chance_any B b _ 10 _ hsr (by omega) (by omega)) ?_
      rintro e w2 ⟨q, rfl, hs2, hg2⟩
      have lo := ho.lt
      have ho2 := ho.kept hg2 (fun j hj e => by have := (lo j hj).1; have := Option.some.inj e; omega)
      have hgr2 := grown_trans hgr hg2
      have hz2' := hgr2.size
      clear ho hsr hgr hg2 lo
      cases q
      · go_wp2
        go_ret
        exact ⟨_, ys, rfl, ho2, by omega, hs2.more (by omega), hgr2⟩
      · have hlt2 := hs2.lt
        go_wp2_with fail
        refine Calls.mono (l1Pick_any B b _ _ 3 [0, (k : Int), -1] _ (hs2.alloc _) (by omega) rfl (by omega) (by omega) (by first | omega | (simp; omega)) (lit_at _ _ [0, (k : Int), -1] 3 rfl 2 (by first | rfl | assumption | simp) (by simp [maxLen]))) ?_
        rintro e w3 ⟨z, rfl, hz, hs3, hc⟩
        have hg3 := grownBy_alloc_trans hc
        have lo := ho2.lt
        have ho3 := ho2.kept hg3 (fun j hj e => by have := (lo j hj).1; have := Option.some.inj e; omega)
        have hgr3 := grown_trans hgr2 hg3
        have hz3' := hgr3.size
        clear hc hg3 ho2 hs2 hgr2 lo
        obtain ⟨va, vc, hv, hrd, hvm⟩ := ho3.rd
        subst hv
        have lo := ho3.lt
        go_wp2_with (at_builtin; refine wpList_append_rd rfl _ _ 60 rfl .i64 w.heap.size 2 i0 8 Try.underlying60 hi hz0 hz1 hz2 _ _ ys rfl (World.ownsRow.alloc ho3 _) (some ⟨w3.heap.size, 0, none⟩) 1 1 [z] rfl (lit5D_rd w3 z _) (by simp [maxLen]; omega) (by omega) (by simp; omega) ?_)
        intro v5 w5 ho5 hg5
        have hs5 := (hs3.alloc (.cells #[.int .i64 z] 2)).kept hg5 (fun j hj => by have := (lo j hj).1; omega)
        have hg05 : w.grownBy w5 (some b) := grown_mix (grown_trans hgr3 (World.grownBy_alloc w3 (.cells #[.int .i64 z] 2) (some b))) hg5 (fun j hj => (lo j hj).1)
        have HO : Hid (Own .i64 2 w5 w.heap.size v5 (ys ++ [z]).length (ys ++ [z])) := by rw [List.length_append]; exact ho5
        have HS := hid hs5
        clear ho5 hg5 hs5 hs3 ho3 hgr3 hrd hvm lo
        go_wp2
        go_ret
        exact ⟨_, _, rfl, HO.out, by rw [List.length_append]; simp; omega, HS.out.more (by omega), hg05⟩
end Go.Proofs.Ytocophekfbhfbaa

namespace Go.Proofs.Ytocophekfbhfbaa
open Go.RowKit
set_option linter.unusedVariables false
set_option linter.unusedSimpArgs false

/-- A program and a set of a call's own. -/
structure PS (w0 w : World) (v : Value) (ps : List In) (u : Value) (zs : List Int) : Prop where
  prog : RowS inE 8 252 w w0.heap.size w.heap.size v ps.length ps
  set : RowI .i64 2 w w0.heap.size w.heap.size u zs.length zs
  below : Below w0.heap.size w0 w
  plen : ps.length ≤ 81
  small : ∀ i ∈ ps, i.s.size ≤ 20
  zlen : zs.length ≤ 82

theorem PS.later {w0 w w1 : World} {v u : Value} {ps : List In} {zs : List Int} (h : PS w0 w v ps u zs) (hb : Below w.heap.size w w1) : PS w0 w1 v ps u zs :=
  ⟨(h.prog.below hb).mono (Nat.le_refl _) hb.size, (h.set.below hb).mono (Nat.le_refl _) hb.size, h.below.trans (hb.mono h.below.size), h.plen, h.small, h.zlen⟩

set_option maxHeartbeats 3200000 in
theorem DrawSetFault_any (a : Option Addr) (n ca : Nat) (xs : List Int) (w : World) (ha : Rd .u8 w a n xs) (hB : Bytes xs) (hn : n ≤ 1048576) :
    Calls Try.prog 102 #[.slice a n ca] w fun e w' => ∃ v ps u zs, e = .returned (.tuple #[v, u]) ∧ PS w w' v ps u zs := by
  go_enter Try.func102, Try.ntmps102
  go_wp2_with fail
  refine Calls.mono (l1Source_any a n ca xs w.heap.size _ ha hB hn (src_below ha) (Nat.le_refl _)) ?_
  rintro e w1 ⟨rfl, hs1, hb1⟩
  have hlt1 := hs1.lt
  go_wp2_with fail
  refine Calls.mono (l7Bent_any w.heap.size w.heap.size 0 _ hs1 (by omega)) ?_
  rintro e w2 ⟨v, ps, rfl, P⟩
  obtain ⟨va, vc, rfl, -, -, -⟩ := P.own.rd inE_len
  have hpl := P.len
  go_wp2_with fail
  refine Calls.mono (l7DrawSet_any _ _ _ ps.length _ P.src (by omega) (by omega)) ?_
  rintro e w3 ⟨u, zs, rfl, ho3, hl3, hs3, hg3⟩
  have P3 := P.draw hg3 hs3
  have z2 := P.grown.size
  have z3 := P3.grown.size
  clear hs1 P hs3 hg3 ha
  go_wp2
  exact bodyPost_ret (v := .tuple #[.slice va ps.length vc, u]) (by simp [results, Try.results102, go_sem]) rfl ⟨_, ps, u, zs, rfl, RowS.of (P3.own.up (by omega)), RowI.of (ho3.up (by omega)), below_src hb1 P3.grown (Nat.le_refl _), hpl, P3.small, by omega⟩

set_option maxHeartbeats 3200000 in
theorem DrawCloseSet_any (a : Option Addr) (n ca : Nat) (xs : List Int) (w : World) (ha : Rd .u8 w a n xs) (hB : Bytes xs) (hn : n ≤ 1048576) :
    Calls Try.prog 32 #[.slice a n ca] w fun e w' => ∃ v ps u zs x y, e = .returned (.tuple #[v, u, .bool x, .bool y]) ∧ PS w w' v ps u zs := by
  go_enter Try.func32, Try.ntmps32
  go_wp2_with fail
  refine Calls.mono (DrawSetFault_any a n ca xs _ ha hB hn) ?_
  rintro e w1 ⟨v, ps, u, zs, rfl, P⟩
  obtain ⟨va, vc, rfl, -, -⟩ := P.prog.shape inE_len
  obtain ⟨ua, uc, rfl, -, -⟩ := P.set.shape
  go_wp2_with fail
  refine Calls.mono (l1Later_any a n ca 3 xs w.heap.size _ (ha.below P.below) hB hn (src_below ha) P.below.size (by omega)) ?_
  rintro e w2 ⟨rfl, hs2, hb2⟩
  have hlt2 := hs2.lt
  go_wp2_with fail
  refine Calls.mono (l1Chance_any w.heap.size w1.heap.size _ 2 _ hs2 (by omega) (by omega)) ?_
  rintro e w3 ⟨x, rfl, hs3, hg3⟩
  go_wp2_with fail
  refine Calls.mono (l1Chance_any w.heap.size w1.heap.size _ 2 _ hs3 (by omega) (by omega)) ?_
  rintro e w4 ⟨y, rfl, hs4, hg4⟩
  have hb4 : Below w1.heap.size w1 w4 := below_src hb2 (grown_trans hg3 hg4) (Nat.le_refl _)
  have PL := P.later hb4
  clear hs2 hs3 hs4 hg3 hg4 hb2 P ha
  go_wp2
  exact bodyPost_ret (v := .tuple #[.slice va ps.length vc, .slice ua zs.length uc, .bool x, .bool y]) (by simp [results, Try.results32, go_sem]) rfl ⟨_, ps, _, zs, x, y, rfl, PL⟩

set_option maxHeartbeats 3200000 in
theorem DrawStepSet_any (a : Option Addr) (n ca : Nat) (xs : List Int) (w : World) (ha : Rd .u8 w a n xs) (hB : Bytes xs) (hn : n ≤ 1048576) :
    Calls Try.prog 37 #[.slice a n ca] w fun e w' => ∃ v ps u zs d, e = .returned (.tuple #[v, u, .int .u8 d]) ∧ 0 ≤ d ∧ d < 256 ∧ PS w w' v ps u zs := by
  go_enter Try.func37, Try.ntmps37
  go_wp2_with fail
  refine Calls.mono (DrawSetFault_any a n ca xs _ ha hB hn) ?_
  rintro e w1 ⟨v, ps, u, zs, rfl, P⟩
  obtain ⟨va, vc, rfl, -, -⟩ := P.prog.shape inE_len
  obtain ⟨ua, uc, rfl, -, -⟩ := P.set.shape
  go_wp2_with fail
  refine Calls.mono (l1Later_any a n ca 3 xs w.heap.size _ (ha.below P.below) hB hn (src_below ha) P.below.size (by omega)) ?_
  rintro e w2 ⟨rfl, hs2, hb2⟩
  have hlt2 := hs2.lt
  go_wp2_with fail
  refine Calls.mono (l1Pick_any w.heap.size w1.heap.size _ _ 4 [97, 98, 99, 10] _ (hs2.alloc _) (by omega) rfl (by omega) (by omega) (by first | omega | (simp; omega)) (lit_at _ _ [97, 98, 99, 10] 4 rfl 2 (by first | rfl | assumption | simp) (by simp [maxLen]))) ?_
  rintro e w3 ⟨d, rfl, hd, hs3, hg3⟩
  have hd2 : 0 ≤ d ∧ d < 256 := by simp at hd; omega
  obtain ⟨hd0, hd1⟩ := hd2
  have hb4 : Below w1.heap.size w1 w3 := below_src hb2 (grownBy_alloc_trans hg3) (Nat.le_refl _)
  have PL := P.later hb4
  have hw8 : IntKind.u8.wrap d = d := by first | (rw [IntKind.wrap_u8]; omega) | (unfold IntKind.wrap; simp [IntKind.bits, IntKind.signed]; omega)
  clear hs2 hs3 hg3 hb2 P ha hd
  go_wp2
  exact bodyPost_ret (v := .tuple #[.slice va ps.length vc, .slice ua zs.length uc, .int .u8 d]) (by simp [results, Try.results37, go_sem, hw8]) rfl ⟨_, ps, _, zs, d, rfl, hd0, hd1, PL⟩
end Go.Proofs.Ytocophekfbhfbaa
