/-
  The program's LineBytes: its contract.
-/
import Derived.Test.YtjhlmhehojjgfaaLines4
namespace Go.Proofs.Ytjhlmhehojjgfaa
open Go.RowKit Go.Shelf
set_option linter.unusedVariables false
attribute [local go_sem] Oper.semAt_some lineEncs

theorem lb_found {xs : List Int} {I : Int} {x : Int × L2} (hx : x ∈ numL 0 (lns xs)) (hI : x.1 = I) (hn : ¬ 400 < xs.length) : lbCode xs I = 0 ∧ lbRes xs I = cutOf xs x.2 := by
  obtain ⟨j, hj⟩ := List.getElem?_of_mem hx
  rw [numL_at] at hj
  cases hl : (lns xs)[j]? with
  | none => rw [hl] at hj; cases hj
  | some l =>
    rw [hl] at hj
    simp at hj
    subst hj
    simp at hI
    subst hI
    have hjl : j < (lns xs).length := (List.getElem?_eq_some_iff.1 hl).1
    have e0 : lbCode xs (j : Int) = 0 := by unfold lbCode; rw [if_neg hn, if_neg (by omega)]
    refine ⟨e0, ?_⟩
    unfold lbRes
    rw [if_pos e0, Int.toNat_natCast, List.getD_eq_getElem?_getD, hl]
    rfl
theorem lb_none {xs : List Int} {I : Int} (h : ∀ x ∈ numL 0 (lns xs), x.1 ≠ I) (hn : ¬ 400 < xs.length) : lbCode xs I = 3 ∧ lbRes xs I = [] := by
  have e0 : lbCode xs I = 3 := by
    unfold lbCode
    rw [if_neg hn, if_pos]
    apply Classical.byContradiction
    intro hI
    obtain ⟨i, rfl⟩ : ∃ i : Nat, I = (i : Int) := ⟨I.toNat, by omega⟩
    have hil : i < (lns xs).length := by omega
    have hm : (numL 0 (lns xs))[i]? = some ((i : Int), (lns xs)[i]) := by rw [numL_at, List.getElem?_eq_getElem hil]; simp
    exact h _ (List.mem_of_getElem? hm) rfl
  exact ⟨e0, by unfold lbRes; rw [if_neg (by omega)]⟩

theorem ownsRow_turn {X Y : World} {row : Option Nat} {base : Nat} {e : TypeId} {size k : Nat} {v : Value} {ys : List Value} (hr : X.ownsRow base e size v k ys) (hg : X.grownBy Y row) (hrow : ∀ r, row = some r → ∃ o : Obj, X.heap[r]? = some o ∧ o.isCells = false) : Y.ownsRow base e size v k ys := by
  refine hr.kept hg ?_
  rcases hr.2 with ⟨rfl, _⟩ | ⟨g, cap, cur, rfl, _, hgb, _⟩
  · exact .inl rfl
  · refine .inr (fun e' => ?_)
    obtain ⟨o, ho, hc⟩ := hrow g e'.symm
    rw [hgb] at ho
    cases ho
    cases hc

/-- None of the lines has the number I. -/
def NoneIs {n : Nat} (I : Int) (pre : List (LineIn n)) : Prop := ∀ x ∈ pre, x.1.1 ≠ I
theorem NoneIs.snoc {n : Nat} {I : Int} {pre : List (LineIn n)} {x : LineIn n} (h : NoneIs I pre) (hx : x.1.1 ≠ I) : NoneIs I (pre ++ [x]) :=
  fun y hy => (List.mem_append.1 hy).elim (h y) (fun e => by simp at e; subst e; exact hx)

set_option maxRecDepth 100000 in
set_option maxHeartbeats 8000000 in
theorem implLineBytes_any (a : Option Addr) (n ca : Nat) (I : Int) (xs : List Int) (w : World) (ha : Rd .u8 w a n xs) (hB : Bytes xs) (h1 : n ≤ 1073741824) (hca : n ≤ ca) (hcm : ca ≤ 9223372036854775807) :
    Calls Try.prog 28 #[.agg #[.slice a n ca], .int .i64 I] w fun e w' => ∃ v, e = .returned (.agg #[.int .i64 (lbCode xs I), v]) ∧ RowI .u8 5 w' w.heap.size w'.heap.size v (lbRes xs I).length (lbRes xs I) ∧ Below w.heap.size w w' := by
  have hlen := ha.1
  have hbt : ∀ o1 o2 o3, Below w.heap.size w (((w.alloc o1).alloc o2).alloc o3) := fun o1 o2 o3 => (((Below.refl _ _).alloc (Nat.le_refl _) o1).alloc (by simp) o2).alloc (by simp; omega) o3
  by_cases hf : 400 < n
  · have e0 : lbCode xs I = 2 := by unfold lbCode; rw [if_pos (by omega)]
    have e2 : lbRes xs I = [] := by unfold lbRes; rw [if_neg (by omega)]
    have e3 : fFault n = 2 := by unfold fFault; rw [if_pos hf]
    rw [e0, e2]
    clear e0 e2 hlen
    go_enter Try.func28, Try.ntmps28
    go_wp2_with fail
    refine (implFileFault_any a n ca _ h1).mono ?_
    rw [e3]
    rintro e w1 ⟨rfl, hb1⟩
    have d0 : w1.cell? ⟨w.heap.size + 1 + 1, 0, none⟩ = some (.int .i64 0) := cell_later hb1 (by simp [go_sem])
    have df0 : w1.frozen? ⟨w.heap.size + 1 + 1, 0, none⟩ = false := (hb1.frozen (p := ⟨w.heap.size + 1 + 1, 0, none⟩) (by simp)).trans (by simp [go_sem])
    have d1 : w1.cell? ⟨w.heap.size + 1 + 1, 1, none⟩ = some (.slice none 0 0) := cell_later hb1 (by simp [go_sem])
    have df1 : w1.frozen? ⟨w.heap.size + 1 + 1, 1, none⟩ = false := (hb1.frozen (p := ⟨w.heap.size + 1 + 1, 1, none⟩) (by simp)).trans (by simp [go_sem])
    have hb01 := (hbt _ _ _).trans (hb1.mono (by simp; omega))
    clear hb1 e3
    go_wp2
    exact bodyPost_ret (v := .agg #[.int .i64 2, .slice none 0 0]) (by simp [results, Try.results28, go_sem, d0, d1]) rfl ⟨_, rfl, RowI.nil _ _ _ _ _, (hb01.setCell (by simp; omega) _).setCell (by simp; omega) _⟩
  · have hf' : ¬ 400 < xs.length := by omega
    have e3 : fFault n = 0 := by unfold fFault; rw [if_neg hf]
    have FF := implFileFault_any a n ca
    rw [e3] at FF
    have HFF : Hid _ := FF
    clear FF e3
    refine (callsIn_wide (n := 3)).1 ?_
    refine callsIn_of_wp_marks Try.func28 rfl trivial ?_ rfl
    simp only [Try.ntmps28, List.size_toArray, List.length_cons, List.length_nil, Nat.reduceAdd, Nat.reduceSub, Array.replicate_succ, Array.replicate_zero, List.push_toArray, List.append_toArray, List.nil_append, List.cons_append]
    gi_wp2_with (first | (refine ⟨trivial, ?_⟩; gi_at_call 15; refine (callsIn_wide.2 (HFF.out _ h1)).mono ?_; rintro e w1 ⟨rfl, hb1⟩; have c0 : w1.cell? ⟨w.heap.size, 0, none⟩ = some (.slice a n ca) := cell_later hb1 (by simp [go_sem]); have z0 : w.heap.size < w1.heap.size := (by have := hb1.size; simp at this; omega)) | (refine ⟨trivial, ?_⟩; gi_at_call 59; refine (linesOf_in _ a n ca _).mono ?_; rintro e w2 ⟨rfl, rfl⟩))
    have z1 : w.heap.size + 1 + 1 < w1.heap.size := by have := hb1.size; simp at this; omega
    have bF : Blk w1 w.heap.size #[.slice a n ca] 25 := (hb1.block w.heap.size (by simp; omega)).trans (((Blk.new w #[.slice a n ca] 25).alloc (.cells #[.int .i64 I] 2)).alloc (.cells #[.int .i64 0, .slice none 0 0] 35))
    have bI : Blk w1 (w.heap.size + 1) #[.int .i64 I] 2 := (hb1.block (w.heap.size + 1) (by simp)).trans (by have := (Blk.new (w.alloc (.cells #[.slice a n ca] 25)) #[.int .i64 I] 2).alloc (.cells #[.int .i64 0, .slice none 0 0] 35); rw [World.size_alloc] at this; exact this)
    have bR : Blk w1 (w.heap.size + 1 + 1) #[.int .i64 0, .slice none 0 0] 35 := (hb1.block (w.heap.size + 1 + 1) (by simp)).trans (by have := Blk.new ((w.alloc (.cells #[.slice a n ca] 25)).alloc (.cells #[.int .i64 I] 2)) #[.int .i64 0, .slice none 0 0] 35; simp only [World.size_alloc] at this; exact this)
    have hb01 := (hbt _ _ _).trans (hb1.mono (by simp; omega))
    clear hb1 hbt c0
    have bF0 := bF.alloc (.cells #[.slice a n ca] 22)
    have bI0 := bI.alloc (.cells #[.slice a n ca] 22)
    have bR0 := bR.alloc (.cells #[.slice a n ca] 22)
    have bN0 := Blk.new w1 #[.slice a n ca] 22
    have hB0 : Below w.heap.size w (w1.alloc (.cells #[.slice a n ca] 22)) := hb01.alloc hb01.size _
    have hsz : (w1.alloc (.cells #[.slice a n ca] 22)).heap.size = w1.heap.size + 1 := by simp
    obtain ⟨W0, hW0⟩ : ∃ W0, (w1.alloc (.cells #[.slice a n ca] 22)) = W0 := ⟨_, rfl⟩
    rw [hW0] at bF0 bI0 bR0 bN0 hB0 hsz ⊢
    clear hW0 bR bF bI
    refine wpIn_rangeFunc_ownH rfl (by omega) (gf := 72) (lb := #[.pointer (some ⟨w1.heap.size, 0, none⟩)]) rfl trivial (enters_of Try.func72 (by kernel_rfl) rfl)
      (linesOf_stopsS _ (by omega) w1.heap.size w.heap.size a n ca xs hB (by omega) hca hcm W0 (by rw [bN0.cell]; rfl) (TextAt.below (TextAt.of ha) hB0) hB0.size) Kept2.trans (kept2_b hB0.size (by omega)) (Below.refl _ _) (fun _ => rfl)
      (fun pre W => ((((NoneIs I pre ∧ Blk W w.heap.size #[.slice a n ca] 25) ∧ Blk W (w.heap.size + 1) #[.int .i64 I] 2) ∧ Blk W (w.heap.size + 1 + 1) #[.int .i64 0, .slice none 0 0] 35) ∧ Blk W w1.heap.size #[.slice a n ca] 22) ∧ Below w.heap.size w W)
      (fun c pre W => (c = .ret ∧ ∃ x : LineIn n, x ∈ pre ∧ x.1.1 = I ∧ ∃ v, Blk W (w.heap.size + 1 + 1) #[.int .i64 0, v] 35 ∧ Own .u8 5 W w.heap.size v (cutOf xs x.1.2).length (cutOf xs x.1.2)) ∧ Below w.heap.size w W)
      (OwnFrom.and (OwnFrom.and (OwnFrom.and (OwnFrom.and (OwnFrom.and (ownFrom_pure _ _) (blk_own _ _ _ _)) (blk_own _ _ _ _)) (blk_own _ _ _ _)) (blk_own _ _ _ _)) (ownFrom_below (Nat.le_refl _) (by omega)))
      (fun c => OwnFrom.and (by
        rintro s X Y row ⟨hc, x, hx, hxI, v, hv, hr⟩ hg hrow
        exact ⟨hc, x, hx, hxI, v, blk_own (β := Unit) _ (fun _ => #[.int .i64 0, v]) _ _ () X Y row hv hg hrow, ownsRow_turn hr hg (fun r e => (hrow r e).2)⟩) (ownFrom_below (Nat.le_refl _) (by omega)))
      ⟨⟨⟨⟨⟨fun x hx => by simp at hx, bF0⟩, bI0⟩, bR0⟩, bN0⟩, hB0⟩
      (fun x a' W => ∃ Bx, w1.heap.size < Bx ∧ Blk W Bx #[.int .i64 x.1.2.1, .int .i64 x.1.2.2] 49 ∧ a' = { tmps := #[.agg #[.slice a n ca], .int .i64 I, .pointer (some ⟨w.heap.size, 0, none⟩), .pointer (some ⟨w.heap.size + 1, 0, none⟩), .pointer (some ⟨w.heap.size + 1 + 1, 0, none⟩), .int .i64 0, .int .i64 x.1.1, .pointer (some ⟨Bx, 0, none⟩), .agg #[.slice a n ca], .int .i64 0, .int .i64 0, .bool false, undef, undef, .pointer (some ⟨w.heap.size, 0, none⟩), .slice a n ca, .func (.func 72) #[] #[.pointer (some ⟨w1.heap.size, 0, none⟩)], .int .i64 x.1.1, .agg #[.int .i64 x.1.2.1, .int .i64 x.1.2.2], undef, undef, undef, undef, undef, undef, undef, undef, undef, undef, undef, undef, undef, undef, undef, undef], defers := [] })
      (fun x a' _ X Y row hs hg hr => by obtain ⟨Bx, e1, e2, e3⟩ := hs; exact ⟨Bx, e1, blk_own (β := Unit) Bx (fun _ => #[.int .i64 x.1.2.1, .int .i64 x.1.2.2]) 49 _ () X Y row e2 hg hr, e3⟩)
      ?assign ?body ?done ?stop
    case assign =>
      rintro l pre x W K ⟨⟨⟨⟨⟨hp, bF⟩, bI⟩, bR⟩, bN⟩, hB1⟩ hK
      gi_wp2
      exact hK _ _ ((KeepsOthers.alloc _ _).from _) ⟨(Below.refl _ W).alloc hB1.size _, Below.heap_alloc W _ _ bN.lt⟩ ⟨⟨⟨⟨⟨hp, bF.alloc _⟩, bI.alloc _⟩, bR.alloc _⟩, bN.alloc _⟩, hB1.alloc hB1.size _⟩ ⟨W.heap.size, bN.lt, Blk.new W _ _, rfl⟩
    case body =>
      rintro l pre x a' W hl ⟨r, hr⟩ ⟨⟨⟨⟨⟨hp, bF⟩, bI⟩, bR⟩, bN⟩, hB1⟩ ⟨Bx, hBx, bX, rfl⟩ hlt
      have cF : W.cell? ⟨w.heap.size, 0, none⟩ = some (.slice a n ca) := bF.cell 0
      have cI : W.cell? ⟨w.heap.size + 1, 0, none⟩ = some (.int .i64 I) := bI.cell 0
      have cR0 : W.cell? ⟨w.heap.size + 1 + 1, 0, none⟩ = some (.int .i64 0) := bR.cell 0
      have cR1 : W.cell? ⟨w.heap.size + 1 + 1, 1, none⟩ = some (.slice none 0 0) := bR.cell 1
      have fR0 := bR.frozen 0
      have fR1 := bR.frozen 1
      have cX0 : W.cell? ⟨Bx, 0, none⟩ = some (.int .i64 x.1.2.1) := bX.cell 0
      have cX1 : W.cell? ⟨Bx, 1, none⟩ = some (.int .i64 x.1.2.2) := bX.cell 1
      have hsW := hB1.size
      obtain ⟨⟨k, l1, l2⟩, hg⟩ := x
      have hg' := hg
      obtain ⟨g1, g2, g3⟩ := hg'
      simp only at g1 g2 g3 cX0 cX1
      obtain ⟨f, rfl⟩ : ∃ f : Nat, l1 = (f : Int) := ⟨l1.toNat, by omega⟩
      obtain ⟨z, rfl⟩ : ∃ z : Nat, l2 = (z : Int) := ⟨l2.toNat, by omega⟩
      clear g1 g2
      by_cases hk : k = I
      · subst hk
        have hfz : f + z ≤ n := by omega
        have hf4 : f ≤ 400 := by omega
        have hz4 : z ≤ 400 := by omega
        have hfc : f + z ≤ ca := by omega
        have hcl : ((xs.drop f).take z).length = z := by simp; omega
        have hcut : cutOf xs ((f : Int), (z : Int)) = (xs.drop f).take z := by simp [cutOf]
        have hr1 : ∀ b, (0 < z → ∀ g off, a = some ⟨g, off, none⟩ → b = some ⟨g, off + f, none⟩) → Rd .u8 W a n xs → Rd .u8 W b z ((xs.drop f).take z) := fun b hb h => h.cut f z hfz b hb
        by_cases hcf : ca = f
        · have hz0 : z = 0 := by omega
          subst hz0
          subst hcf
          have HC : Hid ((cutOf xs ((ca : Int), ((0 : Nat) : Int))).length = 0 ∧ cutOf xs ((ca : Int), ((0 : Nat) : Int)) = []) := ⟨by rw [hcut]; simp, by rw [hcut]; simp⟩
          have hr0 : Rd .u8 W a 0 [] := ⟨rfl, .inl rfl⟩
          have HR : Hid _ := hr0
          clear hcl hcut hr1 hr0
          simp only [Int.natCast_zero] at cX1 ⊢
          gi_wp2_with (refine ⟨trivial, ?_⟩; gi_at_call 54; refine (CallsIn.inRound l (callsIn_wide.2 (copied_any _ 0 _ _ _ HR.out (by omega)))).mono ?_; rintro e w3 ⟨v3, rfl, ho3, hb3⟩; obtain ⟨av, cv, rfl, _⟩ := ho3.shape; have e0 := cell_later hb3 cR0; have e1 := cell_later hb3 cR1; have k0 := (hb3.frozen (p := ⟨w.heap.size + 1 + 1, 0, none⟩) bR.lt).trans fR0; have k1 := (hb3.frozen (p := ⟨w.heap.size + 1 + 1, 1, none⟩) bR.lt).trans fR1)
          have hlR := bR.lt
          have bR3 : Blk w3 (w.heap.size + 1 + 1) #[.int .i64 0, .slice none 0 0] 35 := (hb3.block _ bR.lt).trans bR
          have bR4 := (bR3.set (i := 0) (.int .i64 0)).set (i := 1) (.slice av 0 cv)
          have ho4 := ((ho3.1.setBelow (a := ⟨w.heap.size + 1 + 1, 0, none⟩) hlR (.int .i64 0)).setBelow (a := ⟨w.heap.size + 1 + 1, 1, none⟩) hlR (.slice av 0 cv)).up hsW
          refine ⟨((KeepsFrom.of_grownBy (grownBy_of_below hb3) (by simp)).trans ((KeepsOthers.setCell _ _ _).from _)).trans ((KeepsOthers.setCell _ _ _).from _), ⟨rfl, _, List.mem_append.2 (.inr (List.mem_singleton.2 rfl)), rfl, _, bR4, ?_⟩, ((hB1.trans (hb3.mono hsW)).setCell (p := ⟨w.heap.size + 1 + 1, 0, none⟩) (by simp; omega) _).setCell (p := ⟨w.heap.size + 1 + 1, 1, none⟩) (by simp; omega) _⟩
          rw [show cutOf xs ((ca : Int), (0 : Int)) = [] from HC.out.2]
          exact ho4
        · have HC : Hid ((cutOf xs ((f : Int), (z : Int))).length = z ∧ cutOf xs ((f : Int), (z : Int)) = (xs.drop f).take z) := ⟨by rw [hcut]; exact hcl, hcut⟩
          have hr2 := hr1 (Option.map (fun x => x.add f) a) (fun _ g off h => by subst h; simp [Addr.add_lit]) (ha.below hB1)
          have HR : Hid _ := hr2
          clear hcl hcut hr1 hr2
          gi_wp2_with (refine ⟨trivial, ?_⟩; gi_at_call 54; refine (CallsIn.inRound l (callsIn_wide.2 (copied_any _ z _ _ _ HR.out (by omega)))).mono ?_; rintro e w3 ⟨v3, rfl, ho3, hb3⟩; obtain ⟨av, cv, rfl, _⟩ := ho3.shape; have e0 := cell_later hb3 cR0; have e1 := cell_later hb3 cR1; have k0 := (hb3.frozen (p := ⟨w.heap.size + 1 + 1, 0, none⟩) bR.lt).trans fR0; have k1 := (hb3.frozen (p := ⟨w.heap.size + 1 + 1, 1, none⟩) bR.lt).trans fR1)
          have hlR := bR.lt
          have bR3 : Blk w3 (w.heap.size + 1 + 1) #[.int .i64 0, .slice none 0 0] 35 := (hb3.block _ bR.lt).trans bR
          have bR4 := (bR3.set (i := 0) (.int .i64 0)).set (i := 1) (.slice av z cv)
          have ho4 := ((ho3.1.setBelow (a := ⟨w.heap.size + 1 + 1, 0, none⟩) hlR (.int .i64 0)).setBelow (a := ⟨w.heap.size + 1 + 1, 1, none⟩) hlR (.slice av z cv)).up hsW
          refine ⟨((KeepsFrom.of_grownBy (grownBy_of_below hb3) (by simp)).trans ((KeepsOthers.setCell _ _ _).from _)).trans ((KeepsOthers.setCell _ _ _).from _), ⟨rfl, _, List.mem_append.2 (.inr (List.mem_singleton.2 rfl)), rfl, _, bR4, ?_⟩, ((hB1.trans (hb3.mono hsW)).setCell (p := ⟨w.heap.size + 1 + 1, 0, none⟩) (by simp; omega) _).setCell (p := ⟨w.heap.size + 1 + 1, 1, none⟩) (by simp; omega) _⟩
          rw [HC.out.1, HC.out.2]
          exact ho4
      · have hk' : (k == I) = false := by simpa using hk
        gi_wp2
        exact ⟨KeepsFrom.refl _ _, ⟨Below.refl _ _, rfl⟩, ⟨⟨⟨⟨hp.snoc hk, bF⟩, bI⟩, bR⟩, bN⟩, hB1⟩
    case done =>
      rintro D ys W hD hys ⟨⟨⟨⟨⟨hp, bF⟩, bI⟩, bR⟩, bN⟩, hB1⟩ hK
      obtain ⟨q0, q2⟩ := lb_none (xs := xs) (I := I) (fun x hx => by
        rw [← hys] at hx
        obtain ⟨y, hy, rfl⟩ := List.mem_map.1 hx
        exact hp y hy) hf'
      have Q0 : Hid _ := q0
      have Q2 : Hid _ := q2
      have cR0 : W.cell? ⟨w.heap.size + 1 + 1, 0, none⟩ = some (.int .i64 0) := bR.cell 0
      have cR1 : W.cell? ⟨w.heap.size + 1 + 1, 1, none⟩ = some (.slice none 0 0) := bR.cell 1
      have fR0 := bR.frozen 0
      have fR1 := bR.frozen 1
      clear q0 q2 hys hp
      gi_wp2
      have bR2 := (bR.set (i := 0) (.int .i64 3)).set (i := 1) (.slice none 0 0)
      have hB2 := (hB1.setCell (p := ⟨w.heap.size + 1 + 1, 0, none⟩) (by simp; omega) (.int .i64 3)).setCell (p := ⟨w.heap.size + 1 + 1, 1, none⟩) (by simp; omega) (.slice none 0 0)
      have hK2 := (Below.heap_setCell _ ⟨w.heap.size + 1 + 1, 1, none⟩ (.slice none 0 0) D (by simp; omega)).trans ((Below.heap_setCell W ⟨w.heap.size + 1 + 1, 0, none⟩ (.int .i64 3) D (by simp; omega)).trans hK)
      generalize ((W.setCell ⟨w.heap.size + 1 + 1, 0, none⟩ (.int .i64 3)).setCell ⟨w.heap.size + 1 + 1, 1, none⟩ (.slice none 0 0)) = W2 at *
      have bR3 := bR2.putObj (.deferred none) hK2 rfl
      have g0 : (W2.putObj D (.deferred none)).cell? ⟨w.heap.size + 1 + 1, 0, none⟩ = some (.int .i64 3) := bR3.cell 0
      have g1 : (W2.putObj D (.deferred none)).cell? ⟨w.heap.size + 1 + 1, 1, none⟩ = some (.slice none 0 0) := bR3.cell 1
      refine ⟨by simp, .inl ⟨_, _, rfl, run_takeDeferred hK2, ?_⟩⟩
      refine ⟨.agg #[.int .i64 3, .slice none 0 0], by simp [results, Try.results28, go_sem, g0, g1], .slice none 0 0, by rw [Q0.out], by rw [Q2.out]; exact RowI.nil _ _ _ _ _, hB2.trans (belowK_b (w := w) (Nat.le_refl _) W2 D _ _ (by omega) hK2 rfl rfl)⟩
    case stop =>
      rintro D c pre W hD hpre ⟨⟨rfl, x, hx, hxI, v, bR, hr⟩, hB1⟩ hK
      obtain ⟨q0, q2⟩ := lb_found (xs := xs) (hpre.subset (List.mem_map.2 ⟨x, hx, rfl⟩)) hxI hf'
      have hl : (cutOf xs x.1.2).length = (lbRes xs I).length := by rw [q2]
      have ho : Own .u8 5 W w.heap.size v (lbRes xs I).length (lbRes xs I) := by rw [q2]; exact hr
      have Q0 : Hid _ := q0
      clear q0 q2 hl hr hx hxI hpre
      obtain ⟨av, cv, hv, _⟩ := ho.rdc
      subst hv
      gi_wp2
      have bR3 := bR.putObj (.deferred none) hK rfl
      have g0 : (W.putObj D (.deferred none)).cell? ⟨w.heap.size + 1 + 1, 0, none⟩ = some (.int .i64 0) := bR3.cell 0
      have g1 : (W.putObj D (.deferred none)).cell? ⟨w.heap.size + 1 + 1, 1, none⟩ = some (.slice av (lbRes xs I).length cv) := bR3.cell 1
      refine ⟨by simp, .inl ⟨_, _, rfl, run_takeDeferred hK, ?_⟩⟩
      refine ⟨.agg #[.int .i64 0, .slice av (lbRes xs I).length cv], by simp [results, Try.results28, go_sem, g0, g1], _, by rw [Q0.out], RowI.of (ownsRow_putObj ho _ hK rfl), hB1.trans (belowK_b (w := w) (Nat.le_refl _) W D _ _ (by omega) hK rfl rfl)⟩
end Go.Proofs.Ytjhlmhehojjgfaa
