/-
  The program's LinesIn: its contract.
-/
import Derived.Test.YtaeolofailompaaLines3
import Derived.Test.YtaeolofailompaaLines1
import Derived.Test.YtaeolofailompaaBox
import Derived.Maps.AppendAt
namespace Go.Proofs.Ytaeolofailompaa
open Go.RowKit Go.Shelf
set_option linter.unusedVariables false
attribute [local go_sem] Oper.semAt_some lineEncs

theorem kept2_b {n₀ Bn : Nat} {w : World} (hn : n₀ ≤ w.heap.size) (hb : Bn < w.heap.size) (W : World) (l : Nat) (o o' : Obj) (hl : w.heap.size ≤ l) (h : W.heap[l]? = some o) (h1 : o.isCells = false) (h2 : o.isWalk = false) : Kept2 n₀ Bn W (W.putObj l o') :=
  ⟨belowK_b hn W l o o' hl h h1 h2, World.putObj_heap_other (by omega)⟩

set_option maxRecDepth 100000 in
set_option maxHeartbeats 4000000 in
theorem implLinesIn_any (a : Option Addr) (n ca : Nat) (xs : List Int) (w : World) (ha : Rd .u8 w a n xs) (hB : Bytes xs) (h1 : n ≤ 1073741824) (hca : n ≤ ca) (hcm : ca ≤ 9223372036854775807) :
    Calls Try.prog 61 #[.agg #[.slice a n ca]] w fun e w' => ∃ v, e = .returned (.agg #[.int .i64 (linCode xs), v]) ∧ RowS lineE 2 202 w' w.heap.size w'.heap.size v (linRes xs).length (linRes xs) ∧ Below w.heap.size w w' := by
  have hlen := ha.1
  have hbt := below_two w
  by_cases hf : 400 < n
  · have e0 : linCode xs = 2 := by unfold linCode; rw [if_pos (by omega)]
    have e2 : linRes xs = [] := by unfold linRes; rw [if_pos (by omega)]
    have e3 : fFault n = 2 := by unfold fFault; rw [if_pos hf]
    rw [e0, e2]
    clear e0 e2 hlen
    go_enter Try.func61, Try.ntmps61
    go_wp2_with fail
    refine (implFileFault_any a n ca _ h1).mono ?_
    rw [e3]
    rintro e w1 ⟨rfl, hb1⟩
    have d0 : w1.cell? ⟨w.heap.size + 1, 0, none⟩ = some (.int .i64 0) := cell_later hb1 (by simp [go_sem])
    have df0 : w1.frozen? ⟨w.heap.size + 1, 0, none⟩ = false := (hb1.frozen (p := ⟨w.heap.size + 1, 0, none⟩) (by simp)).trans (by simp [go_sem])
    have d1 : w1.cell? ⟨w.heap.size + 1, 1, none⟩ = some (.slice none 0 0) := cell_later hb1 (by simp [go_sem])
    have df1 : w1.frozen? ⟨w.heap.size + 1, 1, none⟩ = false := (hb1.frozen (p := ⟨w.heap.size + 1, 1, none⟩) (by simp)).trans (by simp [go_sem])
    have c0 : w1.cell? ⟨w.heap.size, 0, none⟩ = some (.slice a n ca) := cell_later hb1 (by simp [go_sem])
    have z1 : w.heap.size + 1 < w1.heap.size := by have := hb1.size; simp at this; omega
    have hb01 := (hbt _ _).trans (hb1.mono (by simp; omega))
    clear hb1 e3
    go_wp2
    exact bodyPost_ret (v := .agg #[.int .i64 2, .slice none 0 0]) (by simp [results, Try.results61, go_sem, d0, d1]) rfl ⟨_, rfl, RowS.nil _ _ _ _ _ _, (hb01.setCell (by simp) _).setCell (by simp) _⟩
  · obtain ⟨i0, hi, hz0, hz1, hz2⟩ := info_parts infoL
    have e0 : linCode xs = 0 := by unfold linCode; rw [if_neg (by omega)]
    have e2 : linRes xs = lns xs := by unfold linRes; rw [if_neg (by omega)]
    have e3 : fFault n = 0 := by unfold fFault; rw [if_neg hf]
    rw [e0, e2]
    clear e0 e2
    have hll := lns_len xs
    have FF := implFileFault_any a n ca
    rw [e3] at FF
    have HFF : Hid _ := FF
    clear FF e3
    refine (callsIn_wide (n := 3)).1 ?_
    refine callsIn_of_wp_marks Try.func61 rfl trivial ?_ rfl
    simp only [Try.ntmps61, List.size_toArray, List.length_cons, List.length_nil, Nat.reduceAdd, Nat.reduceSub, Array.replicate_succ, Array.replicate_zero, List.push_toArray, List.append_toArray, List.nil_append, List.cons_append]
    gi_wp2_with (first | (refine ⟨trivial, ?_⟩; gi_at_call 94; refine (callsIn_wide.2 (HFF.out _ h1)).mono ?_; rintro e w1 ⟨rfl, hb1⟩; have c0 : w1.cell? ⟨w.heap.size, 0, none⟩ = some (.slice a n ca) := cell_later hb1 (by simp [go_sem]); have z0 : w.heap.size < w1.heap.size := (by have := hb1.size; simp at this; omega)) | (refine ⟨trivial, ?_⟩; gi_at_call 152; refine (linesOf_in _ a n ca _).mono ?_; rintro e w2 ⟨rfl, rfl⟩))
    have z1 : w.heap.size + 1 < w1.heap.size := by have := hb1.size; simp at this; omega
    have bR : Blk w1 (w.heap.size + 1) #[.int .i64 0, .slice none 0 0] 101 := (hb1.block (w.heap.size + 1) (by simp)).trans (by have := Blk.new (w.alloc (.cells #[.slice a n ca] 28)) #[.int .i64 0, .slice none 0 0] 101; rw [World.size_alloc] at this; exact this)
    have hb01 := (hbt _ _).trans (hb1.mono (by simp; omega))
    clear hb1 hbt c0
    have bR0 := (bR.alloc (.cells #[.slice none 0 0] 99)).alloc (.cells #[.slice a n ca] 22)
    have bL0 := (Blk.new w1 #[.slice none 0 0] 99).alloc (.cells #[.slice a n ca] 22)
    have bN0 := Blk.new (w1.alloc (.cells #[.slice none 0 0] 99)) #[.slice a n ca] 22
    rw [World.size_alloc] at bN0
    have hB0 : Below w.heap.size w ((w1.alloc (.cells #[.slice none 0 0] 99)).alloc (.cells #[.slice a n ca] 22)) := (hb01.alloc hb01.size _).alloc (by have := hb01.size; simp; omega) _
    have hsz : ((w1.alloc (.cells #[.slice none 0 0] 99)).alloc (.cells #[.slice a n ca] 22)).heap.size = w1.heap.size + 2 := by simp
    obtain ⟨W0, hW0⟩ : ∃ W0, ((w1.alloc (.cells #[.slice none 0 0] 99)).alloc (.cells #[.slice a n ca] 22)) = W0 := ⟨_, rfl⟩
    rw [hW0] at bR0 bL0 bN0 hB0 hsz ⊢
    clear hW0 bR
    refine wpIn_rangeFunc_ownH rfl (by omega) (gf := 221) (lb := #[.pointer (some ⟨w1.heap.size + 1, 0, none⟩)]) rfl trivial (enters_of Try.func221 (by kernel_rfl) rfl)
      (linesOf_stops _ (by omega) (w1.heap.size + 1) w.heap.size a n ca xs hB (by omega) hca hcm W0 (by rw [bN0.cell]; rfl) (TextAt.below (TextAt.of ha) hB0) hB0.size) Kept2.trans (kept2_b hB0.size (by omega)) (Below.refl _ _) (fun _ => rfl)
      (fun pre W => (((∃ v, Blk W w1.heap.size #[v] 99 ∧ W.ownsRow w.heap.size 202 2 v pre.length ((pre.map (·.2)).flatMap lineE)) ∧ Blk W (w.heap.size + 1) #[.int .i64 0, .slice none 0 0] 101) ∧ Blk W (w1.heap.size + 1) #[.slice a n ca] 22) ∧ Below w.heap.size w W)
      (fun _ _ _ => False)
      (OwnFrom.and (OwnFrom.and (OwnFrom.and (by
        rintro s X Y row ⟨v, hv, hr⟩ hg hrow
        have h2 := (holdsRow_own w.heap.size w1.heap.size 99 202 2 (fun (pre : List (Int × L2)) => pre.length) (fun pre => (pre.map (·.2)).flatMap lineE) (fun _ _ => True)) s X Y row ⟨v, hv, hr, trivial⟩ hg (fun r e => (hrow r e).2)
        obtain ⟨v', h3, h4, _⟩ := h2
        exact ⟨v', h3, h4⟩) (blk_own _ _ _ _)) (blk_own _ _ _ _)) (ownFrom_below (Nat.le_refl _) (by omega)))
      (fun _ _ _ _ _ hs _ _ => hs)
      ⟨⟨⟨⟨_, bL0, World.ownsRow_nil _ _ _ _⟩, bR0⟩, bN0⟩, hB0⟩
      (fun x a' W => ∃ Bx, w1.heap.size + 1 < Bx ∧ Blk W Bx #[.int .i64 x.2.1, .int .i64 x.2.2] 202 ∧ a' = { tmps := #[.agg #[.slice a n ca], .pointer (some ⟨w.heap.size, 0, none⟩), .pointer (some ⟨w.heap.size + 1, 0, none⟩), .int .i64 0, .pointer (some ⟨w1.heap.size, 0, none⟩), undef, .pointer (some ⟨Bx, 0, none⟩), .agg #[.slice a n ca], .int .i64 0, .int .i64 0, .bool false, undef, undef, .pointer (some ⟨w.heap.size, 0, none⟩), .slice a n ca, .func (.func 221) #[] #[.pointer (some ⟨w1.heap.size + 1, 0, none⟩)], .int .i64 x.1, .agg #[.int .i64 x.2.1, .int .i64 x.2.2], undef, undef, undef, undef, undef, undef], defers := [] })
      (fun x a' _ X Y row hs hg hr => by obtain ⟨Bx, e1, e2, e3⟩ := hs; exact ⟨Bx, e1, blk_own (β := Unit) Bx (fun _ => #[.int .i64 x.2.1, .int .i64 x.2.2]) 202 _ () X Y row e2 hg hr, e3⟩)
      ?assign ?body ?done ?stop
    case assign =>
      rintro l pre x W K ⟨⟨⟨⟨v, bL, hrow⟩, bR⟩, bN⟩, hB1⟩ hK
      gi_wp2
      exact hK _ _ ((KeepsOthers.alloc _ _).from _) ⟨(Below.refl _ W).alloc hB1.size _, Below.heap_alloc W _ _ bN.lt⟩ ⟨⟨⟨⟨v, bL.alloc _, hrow.alloc _⟩, bR.alloc _⟩, bN.alloc _⟩, hB1.alloc hB1.size _⟩ ⟨W.heap.size, bN.lt, Blk.new W _ _, rfl⟩
    case body =>
      rintro l pre x a' W hl ⟨r, hr⟩ ⟨⟨⟨⟨v, bL, hrow⟩, bR⟩, bN⟩, hB1⟩ ⟨Bx, hBx, bX, rfl⟩ hlt
      have hpl : pre.length < 400 := by rw [numL_len] at hlt; omega
      have cL : W.cell? ⟨w1.heap.size, 0, none⟩ = some v := bL.cell 0
      have cX0 : W.cell? ⟨Bx, 0, none⟩ = some (.int .i64 x.2.1) := bX.cell 0
      have cX1 : W.cell? ⟨Bx, 1, none⟩ = some (.int .i64 x.2.2) := bX.cell 1
      have hsW := hB1.size
      gi_wp2_with (gi_at_builtin; refine wpListIn_append_own _ rfl _ _ 99 rfl w.heap.size 202 i0 (.agg #[.int .i64 0, .int .i64 0]) 2 16 Try.underlying99 hi hz0 hz1 hz2 rfl (by decide) _ _ _ rfl (hrow.alloc _) ⟨W.heap.size, 0, none⟩ 1 1 (lineE x.2) rfl rfl (cells_new W #[.int .i64 x.2.1, .int .i64 x.2.2] 202) (lineE_one _) (by unfold maxLen; omega) (by omega) (by simp; omega) ?_; intro v' w3 hown' hgrow _; obtain ⟨g', cap', rfl⟩ := ownsRow_succ hown'; obtain ⟨hv1, hv2, hr2, hk2, hb2⟩ := Boxed.appended bL (by decide) hrow hB1.size (by omega) hown' hgrow; have hc1 := hv1.cell; have hf1 := hv1.frozen)
      have bN3 := ((bN.alloc (.cells #[.int .i64 x.2.1, .int .i64 x.2.2] 202)).kept hgrow (Blk.not_row (bN.alloc (.cells #[.int .i64 x.2.1, .int .i64 x.2.2] 202)) (by decide) (hrow.alloc _))).other (B' := w1.heap.size) (i := 0) (by omega) (Value.slice (some ⟨g', 0, none⟩) (pre.length + 1) cap')
      have bR3 := ((bR.alloc (.cells #[.int .i64 x.2.1, .int .i64 x.2.2] 202)).kept hgrow (Blk.not_row (bR.alloc (.cells #[.int .i64 x.2.1, .int .i64 x.2.2] 202)) (by decide) (hrow.alloc _))).other (B' := w1.heap.size) (i := 0) (by omega) (Value.slice (some ⟨g', 0, none⟩) (pre.length + 1) cap')
      exact ⟨hk2.from _, ⟨hb2, Eq.trans (show _ = _ from bN3) (Eq.symm (show _ = _ from bN))⟩, ⟨⟨⟨_, hv2, by simpa using hr2⟩, bR3⟩, bN3⟩, hB1.trans hb2⟩
    case done =>
      rintro D ys W hD rfl ⟨⟨⟨⟨v, bL, hrow⟩, bR⟩, bN⟩, hB1⟩ hK
      rw [numL_len, numL_map] at hrow
      have ho : OwnR lineE 2 202 W w.heap.size v (lns xs).length (lns xs) := ⟨rfl, hrow⟩
      obtain ⟨av, cv, rfl, _⟩ := ho.rd lineE_len
      clear hrow
      have cL : W.cell? ⟨w1.heap.size, 0, none⟩ = some (.slice av (lns xs).length cv) := bL.cell 0
      have cR0 : W.cell? ⟨w.heap.size + 1, 0, none⟩ = some (.int .i64 0) := bR.cell 0
      have cR1 : W.cell? ⟨w.heap.size + 1, 1, none⟩ = some (.slice none 0 0) := bR.cell 1
      have fR0 := bR.frozen 0
      have fR1 := bR.frozen 1
      gi_wp2
      have n1 := Blk.not_row bR (by decide) ho.2
      have ho1 := ho.kept (setCell_grown W (w.heap.size + 1) 0 (.int .i64 0)) (fun j hj e => n1 (e.trans hj.symm))
      have bR1 := bR.set (i := 0) (.int .i64 0)
      have n2 := Blk.not_row bR1 (by decide) ho1.2
      have ho2 := ho1.kept (setCell_grown _ (w.heap.size + 1) 1 (.slice av (lns xs).length cv)) (fun j hj e => n2 (e.trans hj.symm))
      have bR2 := bR1.set (i := 1) (.slice av (lns xs).length cv)
      have hB2 := (hB1.setCell (p := ⟨w.heap.size + 1, 0, none⟩) (by simp) (.int .i64 0)).setCell (p := ⟨w.heap.size + 1, 1, none⟩) (by simp) (.slice av (lns xs).length cv)
      have hK2 := (Below.heap_setCell _ ⟨w.heap.size + 1, 1, none⟩ (.slice av (lns xs).length cv) D (by simp; omega)).trans ((Below.heap_setCell W ⟨w.heap.size + 1, 0, none⟩ (.int .i64 0) D (by simp; omega)).trans hK)
      generalize ((W.setCell ⟨w.heap.size + 1, 0, none⟩ (.int .i64 0)).setCell ⟨w.heap.size + 1, 1, none⟩ (.slice av (lns xs).length cv)) = W2 at *
      have bR3 := bR2.putObj (.deferred none) hK2 rfl
      have g0 : (W2.putObj D (.deferred none)).cell? ⟨w.heap.size + 1, 0, none⟩ = some (.int .i64 0) := bR3.cell 0
      have g1 : (W2.putObj D (.deferred none)).cell? ⟨w.heap.size + 1, 1, none⟩ = some (.slice av (lns xs).length cv) := bR3.cell 1
      refine ⟨by simp, .inl ⟨_, _, rfl, run_takeDeferred hK2, ?_⟩⟩
      refine ⟨.agg #[.int .i64 0, .slice av (lns xs).length cv], by simp [results, Try.results61, go_sem, g0, g1], _, rfl, RowS.of ⟨ho2.1, ownsRow_putObj ho2.2 _ hK2 rfl⟩, hB2.trans (belowK_b (w := w) (Nat.le_refl _) W2 D _ _ (by omega) hK2 rfl rfl)⟩
    case stop =>
      rintro D c pre W _ _ h _
      exact h.elim
end Go.Proofs.Ytaeolofailompaa
