/-
  The keys of the shelf's map, collected.
-/
import Derived.Test.YtckkkhabjfbngaaKeys1
import Derived.Test.YtckkkhabjfbngaaBox
import Derived.Maps.AppendAt
namespace Go.Proofs.Ytckkkhabjfbngaa
open Go.RowKit Go.Shelf Go.ChangeMaps Go.MapKept
set_option linter.unusedVariables false
attribute [local go_sem] Oper.semAt_some

def keyE (U : Int) (e : En) : List Value := [.int .i64 U, .int .i64 e.num]
theorem keyE_len (U : Int) (e : En) : (keyE U e).length = 2 := rfl
theorem keyE_one (U : Int) (e : En) : ∀ u ∈ keyE U e, u.oneCell' = true := by
  intro u hu
  simp [keyE] at hu
  rcases hu with rfl | rfl <;> rfl

theorem infoK : (Try.prog.info? 95).map (fun i => (i.zero, i.size, i.bytes)) = some (some (.agg #[.int .i64 0, .int .i64 0]), 2, 16) := by kernel_rfl

theorem ownsRow_succ2 {w : World} {base : Nat} {e : TypeId} {size n : Nat} {v : Value} {xs : List Value} (h : w.ownsRow base e size v (n + 1) xs) : ∃ g cap, v = .slice (some ⟨g, 0, none⟩) (n + 1) cap := by
  rcases h.2 with ⟨_, h0⟩ | ⟨g, cap, cur, hv, _⟩
  · omega
  · exact ⟨g, cap, hv⟩

set_option maxRecDepth 100000 in
set_option maxHeartbeats 4000000 in
theorem appendSeq_in (d : Nat) (hd : 2 ≤ d) (Bm b : Nat) (U : Int) (B : List En) (w : World) (hm : w.cell? ⟨Bm, 0, none⟩ = some (.map (some b))) (hown : OwnE U w b B) (hl : B.length ≤ 1000) :
    CallsIn Fence.wide d Try.prog 107 #[.slice none 0 0, .func (.func 104) #[] #[.pointer (some ⟨Bm, 0, none⟩)]] w fun e w' =>
      ∃ (v : Value) (ys : List En), e = .returned v ∧ ys.Perm B ∧ w'.ownsRow w.heap.size 95 2 v ys.length (ys.flatMap (keyE U)) ∧ Below w.heap.size w w' := by
  obtain ⟨i0, hi, hz0, hz1, hz2⟩ := info_parts infoK
  refine callsIn_of_wp_marks Try.func107 rfl trivial ?_ rfl
  simp only [Try.ntmps107, List.size_toArray, List.length_cons, List.length_nil, Nat.reduceAdd, Nat.reduceSub, Array.replicate_succ, Array.replicate_zero, List.push_toArray, List.append_toArray, List.nil_append, List.cons_append]
  gi_wp2
  have bL0 := Blk.new w #[.slice none 0 0] 127
  have hB0 : Below w.heap.size w (w.alloc (.cells #[.slice none 0 0] 127)) := (Below.refl _ _).alloc (Nat.le_refl _) _
  have hsz : (w.alloc (.cells #[.slice none 0 0] 127)).heap.size = w.heap.size + 1 := by simp
  obtain ⟨W0, hW0⟩ : ∃ W0, w.alloc (.cells #[.slice none 0 0] 127) = W0 := ⟨_, rfl⟩
  rw [hW0] at bL0 hB0 hsz ⊢
  clear hW0
  refine wpIn_rangeFunc_ownH rfl (by omega) (gf := 104) (lb := #[.pointer (some ⟨Bm, 0, none⟩)]) rfl trivial (enters_of Try.func104 (by kernel_rfl) rfl)
    (keys_stops _ (by omega) Bm b U B W0 (cell_later hB0 hm) (hown.below hB0)) walksK_t walksK_b (Below.refl _ _) (fun _ => rfl)
    (fun pre W => (∃ v, Blk W w.heap.size #[v] 127 ∧ W.ownsRow w.heap.size 95 2 v pre.length (pre.flatMap (keyE U))) ∧ Below w.heap.size w W)
    (fun _ _ _ => False)
    (OwnFrom.and (by
      rintro s X Y row ⟨v, hv, hr⟩ hg hrow
      have h2 := (holdsRow_own w.heap.size w.heap.size 127 95 2 (fun (pre : List En) => pre.length) (fun pre => pre.flatMap (keyE U)) (fun _ _ => True)) s X Y row ⟨v, hv, hr, trivial⟩ hg (fun r e => (hrow r e).2)
      obtain ⟨v', h3, h4, _⟩ := h2
      exact ⟨v', h3, h4⟩) (ownFrom_below (Nat.le_refl _) (by omega)))
    (fun _ _ _ _ _ hs _ _ => hs)
    ⟨⟨_, bL0, World.ownsRow_nil _ _ _ _⟩, hB0⟩
    (fun x a' W => ∃ Bx, w.heap.size < Bx ∧ Blk W Bx #[.int .i64 U, .int .i64 x.num] 95 ∧ a' = { tmps := #[.slice none 0 0, .func (.func 104) #[] #[.pointer (some ⟨Bm, 0, none⟩)], .pointer (some ⟨w.heap.size, 0, none⟩), undef, .slice none 0 0, .pointer (some ⟨Bx, 0, none⟩), .func (.func 104) #[] #[.pointer (some ⟨Bm, 0, none⟩)], .agg #[.int .i64 U, .int .i64 x.num], undef, undef, undef, undef, undef], defers := [] })
    (fun x a' _ X Y row hs hg hr => by obtain ⟨Bx, e1, e2, e3⟩ := hs; exact ⟨Bx, e1, blk_own (β := Unit) Bx (fun _ => #[.int .i64 U, .int .i64 x.num]) 95 _ () X Y row e2 hg hr, e3⟩)
    ?assign ?body ?done ?stop
  case assign =>
    rintro l pre x W K ⟨⟨v, bL, hrow⟩, hB1⟩ hK
    simp only [kv]
    gi_wp2
    exact hK _ _ ((KeepsOthers.alloc _ _).from _) (KeepsWalks.alloc _ _) ⟨⟨v, bL.alloc _, hrow.alloc _⟩, hB1.alloc hB1.size _⟩ ⟨W.heap.size, bL.lt, Blk.new W _ _, rfl⟩
  case body =>
    rintro l pre x a' W hl' ⟨r, hr⟩ ⟨⟨v, bL, hrow⟩, hB1⟩ ⟨Bx, hBx, bX, rfl⟩ hlt
    have hpl : pre.length < 1000 := by omega
    have cL : W.cell? ⟨w.heap.size, 0, none⟩ = some v := bL.cell 0
    have cX0 : W.cell? ⟨Bx, 0, none⟩ = some (.int .i64 U) := bX.cell 0
    have cX1 : W.cell? ⟨Bx, 1, none⟩ = some (.int .i64 x.num) := bX.cell 1
    have hsW := hB1.size
    gi_wp2_with (gi_at_builtin; refine wpListIn_append_own _ rfl _ _ 127 rfl w.heap.size 95 i0 (.agg #[.int .i64 0, .int .i64 0]) 2 16 Try.underlying127 hi hz0 hz1 hz2 rfl (by decide) _ _ _ rfl (hrow.alloc _) ⟨W.heap.size, 0, none⟩ 1 1 (keyE U x) rfl rfl (cells_new W #[.int .i64 U, .int .i64 x.num] 95) (keyE_one U x) (by unfold maxLen; omega) (by omega) (by simp; omega) ?_; intro v' w3 hown' hgrow _; obtain ⟨g', cap', rfl⟩ := ownsRow_succ2 hown'; obtain ⟨hv1, hv2, hr2, hk2, hb2⟩ := Boxed.appended bL (by decide) hrow hB1.size (by omega) hown' hgrow; have hc1 := hv1.cell; have hf1 := hv1.frozen)
    exact ⟨hk2.from _, hk2.walks, ⟨⟨_, hv2, by simpa using hr2⟩, hB1.trans hb2⟩⟩
  case done =>
    rintro D ys W hD hP ⟨⟨v, bL, hrow⟩, hB1⟩ hK
    have cL : W.cell? ⟨w.heap.size, 0, none⟩ = some v := bL.cell 0
    gi_wp2
    refine ⟨by simp, .inl ⟨_, _, rfl, run_takeDeferred hK, ?_⟩⟩
    exact ⟨_, results_tmp rfl _ _ _, v, ys, rfl, hP, ownsRow_putObj hrow _ hK rfl, hB1.trans (belowK_b (w := w) (Nat.le_refl _) W D _ _ (by omega) hK rfl rfl)⟩
  case stop =>
    rintro D c pre W _ _ h _
    exact h.elim
end Go.Proofs.Ytckkkhabjfbngaa
