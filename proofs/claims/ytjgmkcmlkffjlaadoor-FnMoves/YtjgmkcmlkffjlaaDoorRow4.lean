/-
  All spots of a file, of the program.
-/
import Derived.Test.YtjgmkcmlkffjlaaDoorRow3
import Derived.Test.YtjgmkcmlkffjlaaDoorRow5
import Derived.Test.YtjgmkcmlkffjlaaDoorRow8
import Derived.Test.YtjgmkcmlkffjlaaDoorLines5
namespace Go.Proofs.YtjgmkcmlkffjlaaDoor
open Go.RowKit Go.Shelf
set_option linter.unusedVariables false
set_option linter.unusedSimpArgs false
attribute [local go_sem] Oper.semAt_some lineEncs

/-- the spots of lines that come with their numbers -/
def spN (C : Bool) (W : Int) (xs : List Int) (pre : List (Int × L2)) : List (Int × Int) := pre.flatMap fun x => (List.range (lnRows C W (cutOf xs x.2))).map fun (r : Nat) => (x.1, (r : Int))
theorem spN_snoc (C : Bool) (W : Int) (xs : List Int) (pre : List (Int × L2)) (x : Int × L2) : spN C W xs (pre ++ [x]) = spN C W xs pre ++ (List.range (lnRows C W (cutOf xs x.2))).map fun (r : Nat) => (x.1, (r : Int)) := by
  simp [spN]
theorem spN_num (C : Bool) (W : Int) (xs : List Int) : ∀ (ls : List L2) (k : Nat), spN C W xs (numL k ls) = spots k (ls.map fun l => lnRows C W (cutOf xs l))
  | [], k => rfl
  | l :: ls, k => by
    have := spN_num C W xs ls (k + 1)
    simp only [numL, List.map_cons, spots, ← this]
    simp [spN]
theorem spN_all (C : Bool) (W : Int) (xs : List Int) : spN C W xs (numL 0 (lns xs)) = spots 0 (cnt C W xs) := spN_num C W xs _ 0
theorem spN_len {C : Bool} {W : Int} {xs : List Int} (hB : Bytes xs) (hn : xs.length ≤ 400) (hW : 1 ≤ W) (pre : List (Int × L2)) : (spN C W xs pre).length ≤ 1601 * pre.length := by
  induction pre with
  | nil => simp [spN]
  | cons x pre ih =>
    have h1 := lnRows_le (C := C) (cutOf_bytes hB x.2) (by have := cutOf_len xs x.2; omega) hW
    unfold spN at ih ⊢
    rw [List.flatMap_cons, List.length_append, List.length_cons, Nat.mul_add]
    simp only [List.length_map, List.length_range]
    omega

/-- An operation that is no defer statement goes in a round as it goes outside of one. -/
theorem opIn_round {F : Fence} {n : Nat} {P : Program} {ops : Array Oper} {Q : Exit → Act → World → Prop} (l i : Nat) (K : Act → World → Prop) (a : Act) (w : World) (hnd : ∀ o, ops[i]? = some o → ∀ c, o.op ≠ .defer c)
    (h : wpOpIn F n P ops Q i K a w) : wpOpIn (F.inRound l) n P ops Q i K a w := by
  unfold wpOpIn at *
  cases ho : ops[i]? with
  | none => rw [ho] at h; exact h
  | some o =>
    rw [ho] at h
    simp only at h ⊢
    split
    · rename_i hw
      rw [if_pos hw] at h
      unfold Oper.wpIn at *
      refine ⟨h.1, ?_⟩
      have h2 := h.2
      rw [Oper.semAt_plain _ _ _ (hnd o ho)] at h2 ⊢
      exact h2
    · rename_i hw
      rw [if_neg hw] at h
      exact h
def noDefer (ops : Array Oper) : Bool := ops.toList.all fun o => match o.op with | .defer _ => false | _ => true
theorem noDefer_at {ops : Array Oper} (h : noDefer ops = true) (i : Nat) (o : Oper) (ho : ops[i]? = some o) (c : Call) : o.op ≠ .defer c := by
  intro hc
  have hm : o ∈ ops.toList := by rw [Array.mem_toList_iff]; exact Array.mem_of_getElem? ho
  have := List.all_eq_true.1 h o hm
  rw [hc] at this
  cases this
theorem anyIn_round {F : Fence} {n : Nat} {P : Program} {md : Region.Mode} {ops : Array Oper} {Q : Exit → Act → World → Prop} (l : Nat) (hnd : noDefer ops = true) :
    ∀ (fuel : Nat) (listed : Array Bool) (a : Act) (w : World), wpAnyIn F n P md ops Q fuel listed a w → wpAnyIn (F.inRound l) n P md ops Q fuel listed a w
  | 0, _, _, _, h => h
  | fuel + 1, listed, a, w, h => ⟨h.1, fun i hi => opIn_round l i _ a w (noDefer_at hnd i) (wpOpIn_mono (fun a w => anyIn_round l hnd fuel _ a w) (h.2 i hi))⟩
theorem rangeRegion {F : Fence} {n : Nat} {P : Program} {id : Nat} {ops : Array Oper} {Q : Exit → Act → World → Prop} {l : Nat} {a : Act} {w : World} (hm : P.follows .mixedOrders = true) (hnd : noDefer ops = true)
    (J : Act → Act → World → Prop) (h : wpAnyIn F n P .any ops (fun e a' w' => e = .normal ∧ J a a' w') ops.size (Array.replicate ops.size false) a { w with drawn := w.drawn + 1 }) (hJ : ∀ a' w', J a a' w' → Q .normal a' w') :
    (Code.region id ops true).wpIn (F.inRound l) n P Q a w :=
  Code.wpIn_mono (fun e a' w' hj => by obtain ⟨he, hj⟩ := hj; subst he; exact hJ _ _ hj) (wpIn_region_any hm (anyIn_round l hnd _ _ _ _ h))

theorem ownsRow_later {X Y : World} {base n : Nat} {e : TypeId} {v : Value} {ys : List Value} {size : Nat} (h : X.ownsRow base e size v n ys) (hb : Below X.heap.size X Y) : Y.ownsRow base e size v n ys :=
  World.ownsRow.kept h (grownBy_of_below hb) (by cases v.ownBlock <;> simp)

theorem opIn_append {F : Fence} {n : Nat} {P : Program} {o : Oper} {a : Act} {K : Act → World → Prop} {Q : Exit → Act → World → Prop} {w w' : World} {v u v' : Value} {y : Nat → Option Bool} {E : Prop} (s x : Operand) (t : TypeId) (hg : o.guard = none)
    (hop : o.op = .call { callee := .builtin .append, args := #[s, x], argTypes := #[t, t] }) (hs : a.eval s = v) (hx : a.eval x = u) (hrun : (Builtin.append_ #[t, t] o.type #[v, u]).run P w = .ok v' w') (h : K (a.put o.dst v') w') :
    if Region.wanted o y = true then o.wpIn F n P a w K Q else E := by
  rw [if_pos (by simp [Region.wanted, hg])]
  unfold Oper.wpIn
  refine ⟨by simp [Oper.about, hop, resolve, Target.leads, Sem.run_pure], ?_⟩
  rw [Oper.semAt_plain F _ _ (by rw [hop]; intro c hc'; cases hc')]
  simp [execOp, hop, resolve, invoke, builtin, hs, hx, hrun, Result.andThen]
  exact h

theorem infoCx : (Tryd.prog.info? 61).map (fun i => (i.zero, i.size, i.bytes)) = some (some (.complex .f64 0 0), 1, 16) := by kernel_rfl

set_option maxHeartbeats 800000 in
theorem rowsFault_any (a : Option Addr) (n ca : Nat) (W S : Int) (C : Bool) (w : World) (hn : n ≤ 1073741824) :
    Calls Tryd.prog 24 #[.agg #[.slice a n ca], .agg #[.int .i64 W, .bool C, .int .i64 S]] w fun e w' => e = .returned (.int .i64 (spBase n W C S)) ∧ Below w.heap.size w w' := by
  have B2 : ∀ o1 o2, Below w.heap.size w ((w.alloc o1).alloc o2) := fun o1 o2 => ((Below.refl _ _).alloc (Nat.le_refl _) o1).alloc (by simp) o2
  have FF := fun w' => implFileFault_any a n ca w' hn
  by_cases hf : 400 < n
  · rw [show fFault n = 2 by unfold fFault; rw [if_pos hf]] at FF
    rw [show spBase n W C S = 2 by unfold spBase; rw [if_pos hf]]
    have HF : Hid _ := FF
    clear FF
    go_enter Tryd.func24, Tryd.ntmps24
    go_wp2_with fail
    refine Calls.mono (HF.out _) ?_
    rintro e w1 ⟨rfl, hb⟩
    have hb1 := (B2 _ _).trans (hb.mono (by simp; omega))
    clear hb
    go_wp2
    go_ret
    exact ⟨rfl, hb1⟩
  · rw [show fFault n = 0 by unfold fFault; rw [if_neg hf]] at FF
    rw [show spBase n W C S = lyF W C S by unfold spBase; rw [if_neg hf]]
    have HF : Hid _ := FF
    clear FF
    go_enter Tryd.func24, Tryd.ntmps24
    go_wp2_with fail
    refine Calls.mono (HF.out _) ?_
    rintro e w1 ⟨rfl, hb⟩
    have hb1 := (B2 _ _).trans (hb.mono (by simp; omega))
    have z1 : w.heap.size + 1 < w1.heap.size := by have := hb.size; simp at this; omega
    have l0 : w1.cell? ⟨w.heap.size + 1, 0, none⟩ = some (.int .i64 W) := cell_later hb (by simp [go_sem])
    have l1 : w1.cell? ⟨w.heap.size + 1, 1, none⟩ = some (.bool C) := cell_later hb (by simp [go_sem])
    have l2 : w1.cell? ⟨w.heap.size + 1, 2, none⟩ = some (.int .i64 S) := cell_later hb (by simp [go_sem])
    clear hb
    go_wp2_with fail
    refine Calls.mono (implLayoutFault_any W S C _) ?_
    rintro e w2 ⟨rfl, hb⟩
    go_wp2
    go_ret
    exact ⟨rfl, hb1.trans (hb.mono hb1.size)⟩

set_option maxRecDepth 100000 in
set_option maxHeartbeats 8000000 in
theorem spotsIn_any (a : Option Addr) (n ca : Nat) (xs : List Int) (Wd S : Int) (C : Bool) (w : World) (ha : Rd .u8 w a n xs) (hB : Bytes xs) (h1 : n ≤ 400) (hca : n ≤ ca) (hcm : ca ≤ 9223372036854775807) (hW : 1 ≤ Wd) (hW2 : Wd ≤ 40) :
    Calls Tryd.prog 26 #[.agg #[.int .i64 Wd, .bool C, .int .i64 S], .agg #[.slice a n ca]] w fun e w' => ∃ v, e = .returned v ∧ RowS cxE 1 61 w' w.heap.size w'.heap.size v (spAll (cnt C Wd xs)).length (spAll (cnt C Wd xs)) ∧ Below w.heap.size w w' := by
  have hlen := ha.1
  have hll := lns_len xs
  obtain ⟨i0, hi, hz0, hz1, hz2⟩ := info_parts infoCx
  refine (callsIn_wide (n := 3)).1 ?_
  refine callsIn_of_wp_marks Tryd.func26 rfl trivial ?_ rfl
  simp only [Tryd.ntmps26, List.size_toArray, List.length_cons, List.length_nil, Nat.reduceAdd, Nat.reduceSub, Array.replicate_succ, Array.replicate_zero, List.push_toArray, List.append_toArray, List.nil_append, List.cons_append]
  gi_wp2_with (refine ⟨trivial, ?_⟩; gi_at_call 44; refine (linesOf_in _ a n ca _).mono ?_; rintro e w2 ⟨rfl, rfl⟩)
  have bL0 := (((Blk.new w #[.int .i64 Wd, .bool C, .int .i64 S] 27).alloc (.cells #[.slice a n ca] 25)).alloc (.cells #[.slice none 0 0] 60)).alloc (.cells #[.slice a n ca] 22)
  have bF0 := ((Blk.new (w.alloc (.cells #[.int .i64 Wd, .bool C, .int .i64 S] 27)) #[.slice a n ca] 25).alloc (.cells #[.slice none 0 0] 60)).alloc (.cells #[.slice a n ca] 22)
  have bS0 := (Blk.new ((w.alloc (.cells #[.int .i64 Wd, .bool C, .int .i64 S] 27)).alloc (.cells #[.slice a n ca] 25)) #[.slice none 0 0] 60).alloc (.cells #[.slice a n ca] 22)
  have bN0 := Blk.new (((w.alloc (.cells #[.int .i64 Wd, .bool C, .int .i64 S] 27)).alloc (.cells #[.slice a n ca] 25)).alloc (.cells #[.slice none 0 0] 60)) #[.slice a n ca] 22
  simp only [World.size_alloc] at bF0 bS0 bN0
  have hB0 : Below w.heap.size w ((((w.alloc (.cells #[.int .i64 Wd, .bool C, .int .i64 S] 27)).alloc (.cells #[.slice a n ca] 25)).alloc (.cells #[.slice none 0 0] 60)).alloc (.cells #[.slice a n ca] 22)) := ((((Below.refl _ _).alloc (Nat.le_refl _) _).alloc (by simp) _).alloc (by simp; omega) _).alloc (by simp; omega) _
  have hsz : ((((w.alloc (.cells #[.int .i64 Wd, .bool C, .int .i64 S] 27)).alloc (.cells #[.slice a n ca] 25)).alloc (.cells #[.slice none 0 0] 60)).alloc (.cells #[.slice a n ca] 22)).heap.size = w.heap.size + 4 := by simp
  obtain ⟨W0, hW0⟩ : ∃ W0, ((((w.alloc (.cells #[.int .i64 Wd, .bool C, .int .i64 S] 27)).alloc (.cells #[.slice a n ca] 25)).alloc (.cells #[.slice none 0 0] 60)).alloc (.cells #[.slice a n ca] 22)) = W0 := ⟨_, rfl⟩
  rw [hW0] at bF0 bL0 bS0 bN0 hB0 hsz ⊢
  clear hW0
  refine wpIn_rangeFunc_ownH rfl (by omega) (gf := 57) (lb := #[.pointer (some ⟨w.heap.size + 1 + 1 + 1, 0, none⟩)]) rfl trivial (enters_of Tryd.func57 (by kernel_rfl) rfl)
    (linesOf_stopsS _ (by omega) (w.heap.size + 1 + 1 + 1) w.heap.size a n ca xs hB h1 hca hcm W0 (by rw [bN0.cell]; rfl) (TextAt.below (TextAt.of ha) hB0) hB0.size) Kept2.trans (kept2_b hB0.size (by omega)) (Below.refl _ _) (fun _ => rfl)
    (fun pre W => ((((∃ v, Blk W (w.heap.size + 1 + 1) #[v] 60 ∧ W.ownsRow w.heap.size 61 1 v (spN C Wd xs (pre.map (·.1))).length ((spN C Wd xs (pre.map (·.1))).flatMap cxE)) ∧ Blk W (w.heap.size + 1) #[.slice a n ca] 25) ∧ Blk W w.heap.size #[.int .i64 Wd, .bool C, .int .i64 S] 27) ∧ Blk W (w.heap.size + 1 + 1 + 1) #[.slice a n ca] 22) ∧ Below w.heap.size w W)
    (fun _ _ _ => False)
    (OwnFrom.and (OwnFrom.and (OwnFrom.and (OwnFrom.and (by
      rintro s X Y row ⟨v, hv, hr⟩ hg hrow
      have h2 := (holdsRow_own w.heap.size (w.heap.size + 1 + 1) 60 61 1 (fun (pre : List (LineIn n)) => (spN C Wd xs (pre.map (·.1))).length) (fun pre => (spN C Wd xs (pre.map (·.1))).flatMap cxE) (fun _ _ => True)) s X Y row ⟨v, hv, hr, trivial⟩ hg (fun r e => (hrow r e).2)
      obtain ⟨v', h3, h4, _⟩ := h2
      exact ⟨v', h3, h4⟩) (blk_own _ _ _ _)) (blk_own _ _ _ _)) (blk_own _ _ _ _)) (ownFrom_below (Nat.le_refl _) (by omega)))
    (fun _ _ _ _ _ hs _ _ => hs)
    ⟨⟨⟨⟨⟨_, bS0, World.ownsRow_nil _ _ _ _⟩, bF0⟩, bL0⟩, bN0⟩, hB0⟩
    (fun x a' W => ∃ Bx, w.heap.size + 1 + 1 + 1 < Bx ∧ Blk W Bx #[.int .i64 x.1.2.1, .int .i64 x.1.2.2] 81 ∧ a' = { tmps := #[.agg #[.int .i64 Wd, .bool C, .int .i64 S], .agg #[.slice a n ca], .pointer (some ⟨w.heap.size, 0, none⟩), .pointer (some ⟨w.heap.size + 1, 0, none⟩), .slice none 0 0, .pointer (some ⟨w.heap.size + 1 + 1, 0, none⟩), .int .i64 x.1.1, .pointer (some ⟨Bx, 0, none⟩), undef, undef, .pointer (some ⟨w.heap.size + 1, 0, none⟩), .slice a n ca, .func (.func 57) #[] #[.pointer (some ⟨w.heap.size + 1 + 1 + 1, 0, none⟩)], .int .i64 x.1.1, .agg #[.int .i64 x.1.2.1, .int .i64 x.1.2.2], undef, undef, undef, undef, undef, undef, undef, undef, undef, undef, undef, undef, undef, undef, undef, undef, undef, undef, undef, undef, undef, undef, undef, undef, undef, undef, undef, undef, undef, undef, undef], defers := [] })
    (fun x a' _ X Y row hs hg hr => by obtain ⟨Bx, e1, e2, e3⟩ := hs; exact ⟨Bx, e1, blk_own (β := Unit) Bx (fun _ => #[.int .i64 x.1.2.1, .int .i64 x.1.2.2]) 81 _ () X Y row e2 hg hr, e3⟩)
    ?assign ?body ?done ?stop
  case assign =>
    rintro l pre x W K ⟨⟨⟨⟨⟨v, bS, hrow⟩, bF⟩, bL⟩, bN⟩, hB1⟩ hK
    gi_wp2
    exact hK _ _ ((KeepsOthers.alloc _ _).from _) ⟨(Below.refl _ W).alloc hB1.size _, Below.heap_alloc W _ _ bN.lt⟩ ⟨⟨⟨⟨⟨v, bS.alloc _, hrow.alloc _⟩, bF.alloc _⟩, bL.alloc _⟩, bN.alloc _⟩, hB1.alloc hB1.size _⟩ ⟨W.heap.size, bN.lt, Blk.new W _ _, rfl⟩
  case body =>
    rintro l pre x a' W hl ⟨r, hr⟩ ⟨⟨⟨⟨⟨v, bS, hrow⟩, bF⟩, bL⟩, bN⟩, hB1⟩ ⟨Bx, hBx, bX, rfl⟩ hlt
    obtain ⟨⟨k, l1, l2⟩, hg⟩ := x
    have hg' := hg
    obtain ⟨g1, g2, g3⟩ := hg'
    simp only at g1 g2 g3 bX
    obtain ⟨f, rfl⟩ : ∃ f : Nat, l1 = (f : Int) := ⟨l1.toNat, by omega⟩
    obtain ⟨z, rfl⟩ : ∃ z : Nat, l2 = (z : Int) := ⟨l2.toNat, by omega⟩
    have hfz : f + z ≤ n := by omega
    have hcut : cutOf xs ((f : Int), (z : Int)) = (xs.drop f).take z := by simp [cutOf]
    have hbz : Bytes ((xs.drop f).take z) := by rw [← hcut]; exact cutOf_bytes hB _
    have hzl : ((xs.drop f).take z).length = z := by simp; omega
    clear g1 g2 g3
    by_cases hcf : ca = f
    · have HZ0 := hid (show z = 0 by omega)
      have hcf' : f = ca := hcf.symm
      clear hcf
      have WI := fun b cp w' h h2 h3 => implWidthOf_any b z cp ((xs.drop f).take z) w' h hbz (by omega) h2 h3
      have e3 : widthVal ((xs.drop f).take z) = .agg #[.int .i64 0, .int .i64 (cellsAll ((xs.drop f).take z)).length] := by unfold widthVal cellsCode cellsRes; rw [if_neg (by omega), if_neg (by omega)]
      rw [e3] at WI
      have hck : (cellsAll ((xs.drop f).take z)).length ≤ 100000 := by have h2 := cellsAll_len hbz; omega
      have RF := fun w' => rowsFor_any Wd S C (cellsAll ((xs.drop f).take z)).length w' hW hW2 hck
      have hNN : lnRows C Wd (cutOf xs ((f : Int), (z : Int))) = rwN C Wd (cellsAll ((xs.drop f).take z)).length := by rw [hcut]; rfl
      have hNle : rwN C Wd (cellsAll ((xs.drop f).take z)).length ≤ 1601 := by rw [← hNN]; exact lnRows_le (cutOf_bytes hB _) (by have := cutOf_len xs ((f : Int), (z : Int)); omega) hW
      have hpl := spN_len (C := C) hB (by omega) hW (pre.map (·.1))
      rw [List.length_map] at hpl
      have hsn := spN_snoc C Wd xs (pre.map (·.1)) (k, ((f : Int), (z : Int)))
      rw [hNN] at hsn
      have fldI : ∀ (x y : Value) (w : World), (Instr.field 88 (.agg #[x, y]) 1).run Tryd.prog w = .ok y w := fun x y w => by kernel_rfl
      have hpre : (List.map (fun x : LineIn n => x.1) (pre ++ [⟨(k, ((f : Int), (z : Int))), hg⟩])) = pre.map (·.1) ++ [(k, ((f : Int), (z : Int)))] := by simp
      rw [numL_len] at hlt
      generalize (cellsAll ((xs.drop f).take z)).length = KC at *
      generalize rwN C Wd KC = N at *
      generalize spN C Wd xs (pre.map (·.1)) = SP at *
      have hSPl : SP.length ≤ 640400 := by omega
      have HWI : Hid _ := WI
      have HRF : Hid _ := RF
      have HSN := hid hsn
      have HPRE := hid hpre
      have hrd : Rd .u8 W a z ((xs.drop f).take z) := (ha.below hB1).cut f z hfz _ (fun h => absurd h (by have := HZ0.out; omega))
      have HRD := hid hrd
      have hsW := hB1.size
      have bF1 := bF
      have cF : W.cell? ⟨w.heap.size + 1, 0, none⟩ = some (.slice a n ca) := bF.cell 0
      have cX0 : W.cell? ⟨Bx, 0, none⟩ = some (.int .i64 (f : Int)) := bX.cell 0
      have cX1 : W.cell? ⟨Bx, 1, none⟩ = some (.int .i64 (z : Int)) := bX.cell 1
      have hf4 : f ≤ 400 := by omega
      have hz4 : z ≤ 400 := by omega
      have hfc : f + z ≤ ca := by omega
      have HROW := hid hrow
      clear WI RF hsn hpre hrd hpl hNN e3 hrow hck
      gi_wp2_with (first
        | (refine ⟨trivial, ?_⟩; gi_at_call 45; refine (CallsIn.inRound l (callsIn_wide.2 (HWI.out _ _ _ HRD.out (by have := HZ0.out; omega) (by unfold maxLen; omega)))).mono ?_; rintro e w3 ⟨rfl, hb3⟩; have bS3 := bS.below hb3; have bF3 := bF.below hb3; have bL3 := bL.below hb3; have bN3 := bN.below hb3; have hB3 := hB1.trans (hb3.mono hsW); have hW3 : KeepsFrom W0.heap.size W w3 := KeepsFrom.of_grownBy (grownBy_of_below hb3) (by simp); have cL0 : w3.cell? ⟨w.heap.size, 0, none⟩ = some (.int .i64 Wd) := bL3.cell 0; have cL1 : w3.cell? ⟨w.heap.size, 1, none⟩ = some (.bool C) := bL3.cell 1; have cL2 : w3.cell? ⟨w.heap.size, 2, none⟩ = some (.int .i64 S) := bL3.cell 2)
        | (refine ⟨trivial, ?_⟩; gi_at_call 46; refine (CallsIn.inRound l (callsIn_wide.2 (HRF.out _))).mono ?_; rintro e w4 ⟨rfl, hb4⟩))
      have bS4 := bS3.below hb4
      have bF4 := bF3.below hb4
      have bL4 := bL3.below hb4
      have bN4 := bN3.below hb4
      have hB4 := hB3.trans (hb4.mono hB3.size)
      have hW4 : KeepsFrom W0.heap.size W w4 := hW3.trans (KeepsFrom.of_grownBy (grownBy_of_below hb4) (by simp))
      have hX4 : Below w.heap.size W w4 := (hb3.mono hsW).trans (hb4.mono hB3.size)
      have hR4 : w4.ownsRow w.heap.size 61 1 v SP.length (SP.flatMap cxE) := (OwnR.below ⟨rfl, HROW.out⟩ hb3 |>.below hb4).2
      have hN4 : w4.heap[w.heap.size + 1 + 1 + 1]? = W.heap[w.heap.size + 1 + 1 + 1]? := Eq.trans (show _ = _ from bN4) (Eq.symm (show _ = _ from bN))
      have HR4 := hid hR4
      clear hb3 hb4 bS3 bF3 bL3 bN3 hB3 hW3 cL0 cL1 cL2 hR4
      gi_loopw [30] (fun t wr => ∃ (j : Nat) (v' : Value), t = .int .i64 j ∧ j ≤ N ∧ Blk wr (w.heap.size + 1 + 1) #[v'] 60 ∧ Hid (wr.ownsRow w.heap.size 61 1 v' (SP ++ (List.range j).map fun (r : Nat) => (k, (r : Int))).length ((SP ++ (List.range j).map fun (r : Nat) => (k, (r : Int))).flatMap cxE)) ∧ Blk wr (w.heap.size + 1) #[.slice a n ca] 25 ∧ Blk wr w.heap.size #[.int .i64 Wd, .bool C, .int .i64 S] 27 ∧ Blk wr (w.heap.size + 1 + 1 + 1) #[.slice a n ca] 22 ∧ Below w.heap.size w wr ∧ KeepsFrom W0.heap.size W wr ∧ Below w.heap.size W wr) (fun t _ => N - (intOf t).toNat)
      case atStart => exact ⟨0, v, rfl, Nat.zero_le _, bS4, by simpa using HR4, bF4, bL4, bN4, hB4, hW4, hX4⟩
      case round =>
        obtain ⟨j, v', rfl, hj, bS5, HR5, bF5, bL5, bN5, hB5, hW5, hX5⟩ := hrel
        by_cases hjn : j < N
        · have hjn' : (j : Int) < (N : Int) := by omega
          have cS : wr.cell? ⟨w.heap.size + 1 + 1, 0, none⟩ = some v' := bS5.cell 0
          have hs5 := hB5.size
          have NO := fun w' => numberOf_any k (j : Int) w'
          obtain ⟨A, B, hAB⟩ : ∃ A B, cx (k, (j : Int)) = .complex .f64 A B := ⟨_, _, rfl⟩
          have hE : cxE (k, (j : Int)) = [.complex .f64 A B] := by unfold cxE; rw [hAB]
          rw [hAB] at NO
          have HNO : Hid _ := NO
          clear NO
          gi_wp2
          have hR5 := HR5.out
          have hlj : (SP ++ (List.range j).map fun (r : Nat) => (k, (r : Int))).length = SP.length + j := by simp
          generalize hLN : (SP ++ (List.range j).map fun (r : Nat) => (k, (r : Int))).length = LN at hR5 hlj
          have hLb : LN ≤ 650000 := by omega
          have HLJ := hid hlj
          clear hlj hLN
          obtain ⟨D, hD⟩ : ∃ D : World, { wr with drawn := wr.drawn + 1 } = D := ⟨_, rfl⟩
          have bd : Below wr.heap.size wr D := by rw [← hD]; exact (Below.refl _ _).drew
          refine rangeRegion (F := Fence.wide) (by kernel_rfl) (by kernel_rfl) (fun ac a' w' => ∃ (q : Value) (g' cap' : Nat), a' = (((((((ac.put (some 33) v').put (some 34) (.int .i64 k)).put (some 35) (.int .i64 (j : Int))).put (some 36) (.agg #[.int .i64 k, .int .i64 (j : Int)])).put (some 37) (Value.complex .f64 A B)).put (some 38) q).put (some 39) (.slice (some ⟨g', 0, none⟩) (LN + 1) cap')) ∧ Blk w' (w.heap.size + 1 + 1) #[.slice (some ⟨g', 0, none⟩) (LN + 1) cap'] 60 ∧ w'.ownsRow w.heap.size 61 1 (.slice (some ⟨g', 0, none⟩) (LN + 1) cap') (LN + 1) ((SP ++ (List.range j).map fun (r : Nat) => (k, (r : Int))).flatMap cxE ++ [.complex .f64 A B]) ∧ Blk w' (w.heap.size + 1) #[.slice a n ca] 25 ∧ Blk w' w.heap.size #[.int .i64 Wd, .bool C, .int .i64 S] 27 ∧ Blk w' (w.heap.size + 1 + 1 + 1) #[.slice a n ca] 22 ∧ Below w.heap.size w w' ∧ KeepsFrom W0.heap.size W w' ∧ Below w.heap.size W w') ?_ ?_
          · rw [hD]
            clear hD
            have bS6 := bS5
            have bF6 := bF5
            have bL6 := bL5
            have bN6 := bN5
            have hB6 := hB5
            have hW6 := hW5
            have hX6 := hX5
            have hR6 := hR5
            clear bS5 bF5 bL5 bN5 hB5 hW5 hX5 hR5 HR5 cS hs5
            replace bS6 := bS6.below bd
            replace bF6 := bF6.below bd
            replace bL6 := bL6.below bd
            replace bN6 := bN6.below bd
            replace hW6 := hW6.trans (KeepsFrom.of_grownBy (grownBy_of_below bd) (by simp))
            replace hX6 := hX6.trans (bd.mono hB6.size)
            replace hR6 := ownsRow_later hR6 bd
            replace hB6 := hB6.trans (bd.mono hB6.size)
            clear bd
            refine wpAnyIn_take (i := 1) (v := .int .i64 k) rfl rfl (by kernel_rfl) (by kernel_rfl) (by kernel_rfl) (fun _ _ _ h => nomatch h.1) ⟨Or.inl ⟨by rfl, ?_⟩, fun _ => rfl⟩ ?_
            · intro w; go_simp
            simp only [Act.put, List.setIfInBounds_toArray, List.set_cons_zero, List.set_cons_succ]
            refine wpAnyIn_take (i := 2) (v := .int .i64 (j : Int)) rfl rfl (by kernel_rfl) (by kernel_rfl) (by kernel_rfl) (fun _ _ _ h => nomatch h.1) ⟨Or.inl ⟨by rfl, ?_⟩, fun _ => rfl⟩ ?_
            · intro w; go_simp
            simp only [Act.put, List.setIfInBounds_toArray, List.set_cons_zero, List.set_cons_succ]
            refine wpAnyIn_take (i := 3) (v := .agg #[.int .i64 k, .int .i64 (j : Int)]) rfl rfl (by kernel_rfl) (by kernel_rfl) (by kernel_rfl) (fun _ _ _ h => nomatch h.1) ⟨Or.inl ⟨by rfl, ?_⟩, fun _ => rfl⟩ ?_
            · intro w; go_simp
            simp only [Act.put, List.setIfInBounds_toArray, List.set_cons_zero, List.set_cons_succ]
            refine wpAnyIn_ready (rs := [0, 4]) (by kernel_rfl) (by simp) ?_
            refine AllReadyIn.cons rfl (fun K hK => ?_) (AllReadyIn.cons rfl (fun K hK => ?_) AllReadyIn.nil)
            · skip
              have hl := bS6.cell 0
              simp only [List.getElem?_toArray, List.getElem?_cons_zero] at hl
              go_simp
              refine hK _ _ ?_
              clear hK K
              clear hl
              refine wpAnyIn_ready (rs := [4]) (by kernel_rfl) (by simp) ?_
              refine AllReadyIn.cons rfl (fun K hK => ?_) AllReadyIn.nil
              go_simp
              refine ⟨trivial, (callsIn_wide.2 (HNO.out _)).mono ?_⟩
              rintro e w6 ⟨rfl, hc6⟩
              refine hK _ _ ?_
              clear hK K
              replace bS6 := bS6.below hc6
              replace bF6 := bF6.below hc6
              replace bL6 := bL6.below hc6
              replace bN6 := bN6.below hc6
              replace hW6 := hW6.trans (KeepsFrom.of_grownBy (grownBy_of_below hc6) (by simp))
              replace hX6 := hX6.trans (hc6.mono hB6.size)
              replace hR6 := ownsRow_later hR6 hc6
              replace hB6 := hB6.trans (hc6.mono hB6.size)
              clear hc6
              refine wpAnyIn_ready (rs := [5]) (by kernel_rfl) (by simp) ?_
              refine AllReadyIn.cons rfl (fun K hK => ?_) AllReadyIn.nil
              go_simp
              refine hK _ _ ?_
              clear hK K
              refine wpAnyIn_ready (rs := [6]) (by kernel_rfl) (by simp) ?_
              refine AllReadyIn.cons rfl (fun K hK => ?_) AllReadyIn.nil
              obtain ⟨v2, w8, hrun, r1, r2, -⟩ := run_append_own (P := Tryd.prog) (w6.alloc (.cells #[Value.complex .f64 A B] 61)) w.heap.size 60 60 61 i0 _ 1 16 Tryd.underlying60 hi hz0 hz1 hz2 rfl (by decide) v' _ _ (hR6.alloc _) ⟨w6.heap.size, 0, none⟩ 1 1 ([.complex .f64 A B]) rfl (cells_new w6 #[.complex .f64 A B] 61) (by simp [Value.oneCell']) (by unfold maxLen; omega) (by omega) (by have := hB6.size; simp; omega)
              obtain ⟨g', cap', rfl⟩ := ownsRow_succ r1
              obtain ⟨hv1, hv2, hr2, hk2, hb2⟩ := Boxed.appended bS6 (by decide) hR6 hB6.size (by omega) r1 r2
              have bF8 := ((bF6.alloc (.cells #[Value.complex .f64 A B] 61)).kept r2 (Blk.not_row (bF6.alloc (.cells #[Value.complex .f64 A B] 61)) (by decide) (hR6.alloc _))).other (B' := w.heap.size + 1 + 1) (i := 0) (by omega) (Value.slice (some ⟨g', 0, none⟩) (LN + 1) cap')
              have bL8 := ((bL6.alloc (.cells #[Value.complex .f64 A B] 61)).kept r2 (Blk.not_row (bL6.alloc (.cells #[Value.complex .f64 A B] 61)) (by decide) (hR6.alloc _))).other (B' := w.heap.size + 1 + 1) (i := 0) (by omega) (Value.slice (some ⟨g', 0, none⟩) (LN + 1) cap')
              have bN8 := ((bN6.alloc (.cells #[Value.complex .f64 A B] 61)).kept r2 (Blk.not_row (bN6.alloc (.cells #[Value.complex .f64 A B] 61)) (by decide) (hR6.alloc _))).other (B' := w.heap.size + 1 + 1) (i := 0) (by omega) (Value.slice (some ⟨g', 0, none⟩) (LN + 1) cap')
              refine opIn_append _ _ _ rfl rfl rfl rfl hrun ?_
              refine hK _ _ ?_
              clear hK K
              simp only [Act.put, List.setIfInBounds_toArray, List.set_cons_zero, List.set_cons_succ]
              have hc1 := hv1.cell
              have hf1 := hv1.frozen
              refine wpAnyIn_ready (rs := [7]) (by kernel_rfl) (by simp) ?_
              refine AllReadyIn.cons rfl (fun K hK => ?_) AllReadyIn.nil
              go_simp
              refine hK _ _ ?_
              clear hK K
              refine wpAnyIn_done (by kernel_rfl) ?_ _
              exact ⟨rfl, _, g', cap', rfl, hv2, hr2, bF8, bL8, bN8, hB6.trans hb2, hW6.trans (hk2.from _), hX6.trans hb2⟩
            · skip
              go_simp
              refine ⟨trivial, (callsIn_wide.2 (HNO.out _)).mono ?_⟩
              rintro e w6 ⟨rfl, hc6⟩
              refine hK _ _ ?_
              clear hK K
              replace bS6 := bS6.below hc6
              replace bF6 := bF6.below hc6
              replace bL6 := bL6.below hc6
              replace bN6 := bN6.below hc6
              replace hW6 := hW6.trans (KeepsFrom.of_grownBy (grownBy_of_below hc6) (by simp))
              replace hX6 := hX6.trans (hc6.mono hB6.size)
              replace hR6 := ownsRow_later hR6 hc6
              replace hB6 := hB6.trans (hc6.mono hB6.size)
              clear hc6
              refine wpAnyIn_ready (rs := [0, 5]) (by kernel_rfl) (by simp) ?_
              refine AllReadyIn.cons rfl (fun K hK => ?_) (AllReadyIn.cons rfl (fun K hK => ?_) AllReadyIn.nil)
              · skip
                have hl := bS6.cell 0
                simp only [List.getElem?_toArray, List.getElem?_cons_zero] at hl
                go_simp
                refine hK _ _ ?_
                clear hK K
                clear hl
                refine wpAnyIn_ready (rs := [5]) (by kernel_rfl) (by simp) ?_
                refine AllReadyIn.cons rfl (fun K hK => ?_) AllReadyIn.nil
                go_simp
                refine hK _ _ ?_
                clear hK K
                refine wpAnyIn_ready (rs := [6]) (by kernel_rfl) (by simp) ?_
                refine AllReadyIn.cons rfl (fun K hK => ?_) AllReadyIn.nil
                obtain ⟨v2, w8, hrun, r1, r2, -⟩ := run_append_own (P := Tryd.prog) (w6.alloc (.cells #[Value.complex .f64 A B] 61)) w.heap.size 60 60 61 i0 _ 1 16 Tryd.underlying60 hi hz0 hz1 hz2 rfl (by decide) v' _ _ (hR6.alloc _) ⟨w6.heap.size, 0, none⟩ 1 1 ([.complex .f64 A B]) rfl (cells_new w6 #[.complex .f64 A B] 61) (by simp [Value.oneCell']) (by unfold maxLen; omega) (by omega) (by have := hB6.size; simp; omega)
                obtain ⟨g', cap', rfl⟩ := ownsRow_succ r1
                obtain ⟨hv1, hv2, hr2, hk2, hb2⟩ := Boxed.appended bS6 (by decide) hR6 hB6.size (by omega) r1 r2
                have bF8 := ((bF6.alloc (.cells #[Value.complex .f64 A B] 61)).kept r2 (Blk.not_row (bF6.alloc (.cells #[Value.complex .f64 A B] 61)) (by decide) (hR6.alloc _))).other (B' := w.heap.size + 1 + 1) (i := 0) (by omega) (Value.slice (some ⟨g', 0, none⟩) (LN + 1) cap')
                have bL8 := ((bL6.alloc (.cells #[Value.complex .f64 A B] 61)).kept r2 (Blk.not_row (bL6.alloc (.cells #[Value.complex .f64 A B] 61)) (by decide) (hR6.alloc _))).other (B' := w.heap.size + 1 + 1) (i := 0) (by omega) (Value.slice (some ⟨g', 0, none⟩) (LN + 1) cap')
                have bN8 := ((bN6.alloc (.cells #[Value.complex .f64 A B] 61)).kept r2 (Blk.not_row (bN6.alloc (.cells #[Value.complex .f64 A B] 61)) (by decide) (hR6.alloc _))).other (B' := w.heap.size + 1 + 1) (i := 0) (by omega) (Value.slice (some ⟨g', 0, none⟩) (LN + 1) cap')
                refine opIn_append _ _ _ rfl rfl rfl rfl hrun ?_
                refine hK _ _ ?_
                clear hK K
                simp only [Act.put, List.setIfInBounds_toArray, List.set_cons_zero, List.set_cons_succ]
                have hc1 := hv1.cell
                have hf1 := hv1.frozen
                refine wpAnyIn_ready (rs := [7]) (by kernel_rfl) (by simp) ?_
                refine AllReadyIn.cons rfl (fun K hK => ?_) AllReadyIn.nil
                go_simp
                refine hK _ _ ?_
                clear hK K
                refine wpAnyIn_done (by kernel_rfl) ?_ _
                exact ⟨rfl, _, g', cap', rfl, hv2, hr2, bF8, bL8, bN8, hB6.trans hb2, hW6.trans (hk2.from _), hX6.trans hb2⟩
              · skip
                go_simp
                refine hK _ _ ?_
                clear hK K
                refine wpAnyIn_ready (rs := [0]) (by kernel_rfl) (by simp) ?_
                refine AllReadyIn.cons rfl (fun K hK => ?_) AllReadyIn.nil
                have hl := (bS6.alloc (.cells #[Value.complex .f64 A B] 61)).cell 0
                simp only [List.getElem?_toArray, List.getElem?_cons_zero] at hl
                go_simp
                refine hK _ _ ?_
                clear hK K
                clear hl
                refine wpAnyIn_ready (rs := [6]) (by kernel_rfl) (by simp) ?_
                refine AllReadyIn.cons rfl (fun K hK => ?_) AllReadyIn.nil
                obtain ⟨v2, w8, hrun, r1, r2, -⟩ := run_append_own (P := Tryd.prog) (w6.alloc (.cells #[Value.complex .f64 A B] 61)) w.heap.size 60 60 61 i0 _ 1 16 Tryd.underlying60 hi hz0 hz1 hz2 rfl (by decide) v' _ _ (hR6.alloc _) ⟨w6.heap.size, 0, none⟩ 1 1 ([.complex .f64 A B]) rfl (cells_new w6 #[.complex .f64 A B] 61) (by simp [Value.oneCell']) (by unfold maxLen; omega) (by omega) (by have := hB6.size; simp; omega)
                obtain ⟨g', cap', rfl⟩ := ownsRow_succ r1
                obtain ⟨hv1, hv2, hr2, hk2, hb2⟩ := Boxed.appended bS6 (by decide) hR6 hB6.size (by omega) r1 r2
                have bF8 := ((bF6.alloc (.cells #[Value.complex .f64 A B] 61)).kept r2 (Blk.not_row (bF6.alloc (.cells #[Value.complex .f64 A B] 61)) (by decide) (hR6.alloc _))).other (B' := w.heap.size + 1 + 1) (i := 0) (by omega) (Value.slice (some ⟨g', 0, none⟩) (LN + 1) cap')
                have bL8 := ((bL6.alloc (.cells #[Value.complex .f64 A B] 61)).kept r2 (Blk.not_row (bL6.alloc (.cells #[Value.complex .f64 A B] 61)) (by decide) (hR6.alloc _))).other (B' := w.heap.size + 1 + 1) (i := 0) (by omega) (Value.slice (some ⟨g', 0, none⟩) (LN + 1) cap')
                have bN8 := ((bN6.alloc (.cells #[Value.complex .f64 A B] 61)).kept r2 (Blk.not_row (bN6.alloc (.cells #[Value.complex .f64 A B] 61)) (by decide) (hR6.alloc _))).other (B' := w.heap.size + 1 + 1) (i := 0) (by omega) (Value.slice (some ⟨g', 0, none⟩) (LN + 1) cap')
                refine opIn_append _ _ _ rfl rfl rfl rfl hrun ?_
                refine hK _ _ ?_
                clear hK K
                simp only [Act.put, List.setIfInBounds_toArray, List.set_cons_zero, List.set_cons_succ]
                have hc1 := hv1.cell
                have hf1 := hv1.frozen
                refine wpAnyIn_ready (rs := [7]) (by kernel_rfl) (by simp) ?_
                refine AllReadyIn.cons rfl (fun K hK => ?_) AllReadyIn.nil
                go_simp
                refine hK _ _ ?_
                clear hK K
                refine wpAnyIn_done (by kernel_rfl) ?_ _
                exact ⟨rfl, _, g', cap', rfl, hv2, hr2, bF8, bL8, bN8, hB6.trans hb2, hW6.trans (hk2.from _), hX6.trans hb2⟩
          · rintro a' w9 ⟨q, g', cap', rfl, bS9, hR9, bF9, bL9, bN9, hB9, hW9, hX9⟩
            (try simp only [Act.put, List.setIfInBounds_toArray, List.set_cons_zero, List.set_cons_succ])
            clear bS5 bF5 bL5 bN5 hB5 hW5 hX5 hR5 cS hs5 HR5 hD bd
            have hR10 : w9.ownsRow w.heap.size 61 1 (.slice (some ⟨g', 0, none⟩) (LN + 1) cap') (SP ++ (List.range (j + 1)).map fun (r : Nat) => (k, (r : Int))).length ((SP ++ (List.range (j + 1)).map fun (r : Nat) => (k, (r : Int))).flatMap cxE) := by
              have e1 : (SP ++ (List.range (j + 1)).map fun (r : Nat) => (k, (r : Int))) = (SP ++ (List.range j).map fun (r : Nat) => (k, (r : Int))) ++ [(k, (j : Int))] := by rw [List.range_succ]; simp
              have e2 : (SP ++ (List.range (j + 1)).map fun (r : Nat) => (k, (r : Int))).length = LN + 1 := by rw [HLJ.out]; simp; omega
              rw [e2, e1, List.flatMap_append]
              simp only [List.flatMap_cons, List.flatMap_nil, List.append_nil, hE]
              simpa using hR9
            have HR10 := hid hR10
            clear hR9 hR10
            gi_wp2
            go_roundw
            case rel => exact ⟨j + 1, _, by go_num, by omega, bS9, HR10, bF9, bL9, bN9, hB9, hW9, hX9⟩
            case measure => simp [intOf]; omega
        · have hjn' : ¬ (j : Int) < (N : Int) := by omega
          obtain rfl : j = N := by omega
          rw [← HSN.out] at HR5
          have hN5 : wr.heap[w.heap.size + 1 + 1 + 1]? = W.heap[w.heap.size + 1 + 1 + 1]? := Eq.trans (show _ = _ from bN5) (Eq.symm (show _ = _ from bN))
          gi_wp2
          refine ⟨(by rw [← hsz]; exact hW5), ⟨hX5, hN5⟩, ⟨⟨⟨⟨_, bS5, ?_⟩, bF5⟩, bL5⟩, bN5⟩, hB5⟩
          first
            | (simp only [HPRE.out]; exact HR5.out)
            | (have h := HR5.out; simp only [hcf'] at h; simp only [List.map_append, List.map_cons, List.map_nil]; exact h)
    · skip
      have WI := fun b cp w' h h2 h3 => implWidthOf_any b z cp ((xs.drop f).take z) w' h hbz (by omega) h2 h3
      have e3 : widthVal ((xs.drop f).take z) = .agg #[.int .i64 0, .int .i64 (cellsAll ((xs.drop f).take z)).length] := by unfold widthVal cellsCode cellsRes; rw [if_neg (by omega), if_neg (by omega)]
      rw [e3] at WI
      have hck : (cellsAll ((xs.drop f).take z)).length ≤ 100000 := by have h2 := cellsAll_len hbz; omega
      have RF := fun w' => rowsFor_any Wd S C (cellsAll ((xs.drop f).take z)).length w' hW hW2 hck
      have hNN : lnRows C Wd (cutOf xs ((f : Int), (z : Int))) = rwN C Wd (cellsAll ((xs.drop f).take z)).length := by rw [hcut]; rfl
      have hNle : rwN C Wd (cellsAll ((xs.drop f).take z)).length ≤ 1601 := by rw [← hNN]; exact lnRows_le (cutOf_bytes hB _) (by have := cutOf_len xs ((f : Int), (z : Int)); omega) hW
      have hpl := spN_len (C := C) hB (by omega) hW (pre.map (·.1))
      rw [List.length_map] at hpl
      have hsn := spN_snoc C Wd xs (pre.map (·.1)) (k, ((f : Int), (z : Int)))
      rw [hNN] at hsn
      have fldI : ∀ (x y : Value) (w : World), (Instr.field 88 (.agg #[x, y]) 1).run Tryd.prog w = .ok y w := fun x y w => by kernel_rfl
      have hpre : (List.map (fun x : LineIn n => x.1) (pre ++ [⟨(k, ((f : Int), (z : Int))), hg⟩])) = pre.map (·.1) ++ [(k, ((f : Int), (z : Int)))] := by simp
      rw [numL_len] at hlt
      generalize (cellsAll ((xs.drop f).take z)).length = KC at *
      generalize rwN C Wd KC = N at *
      generalize spN C Wd xs (pre.map (·.1)) = SP at *
      have hSPl : SP.length ≤ 640400 := by omega
      have HWI : Hid _ := WI
      have HRF : Hid _ := RF
      have HSN := hid hsn
      have HPRE := hid hpre
      have hrd : Rd .u8 W (Option.map (fun x => x.add f) a) z ((xs.drop f).take z) := (ha.below hB1).cut f z hfz _ (fun _ g off h => by subst h; simp [Addr.add_lit])
      have HRD := hid hrd
      have hsW := hB1.size
      have bF1 := bF
      have cF : W.cell? ⟨w.heap.size + 1, 0, none⟩ = some (.slice a n ca) := bF.cell 0
      have cX0 : W.cell? ⟨Bx, 0, none⟩ = some (.int .i64 (f : Int)) := bX.cell 0
      have cX1 : W.cell? ⟨Bx, 1, none⟩ = some (.int .i64 (z : Int)) := bX.cell 1
      have hf4 : f ≤ 400 := by omega
      have hz4 : z ≤ 400 := by omega
      have hfc : f + z ≤ ca := by omega
      have HROW := hid hrow
      clear WI RF hsn hpre hrd hpl hNN e3 hrow hck
      gi_wp2_with (first
        | (refine ⟨trivial, ?_⟩; gi_at_call 45; refine (CallsIn.inRound l (callsIn_wide.2 (HWI.out _ _ _ HRD.out (by omega) (by unfold maxLen; omega)))).mono ?_; rintro e w3 ⟨rfl, hb3⟩; have bS3 := bS.below hb3; have bF3 := bF.below hb3; have bL3 := bL.below hb3; have bN3 := bN.below hb3; have hB3 := hB1.trans (hb3.mono hsW); have hW3 : KeepsFrom W0.heap.size W w3 := KeepsFrom.of_grownBy (grownBy_of_below hb3) (by simp); have cL0 : w3.cell? ⟨w.heap.size, 0, none⟩ = some (.int .i64 Wd) := bL3.cell 0; have cL1 : w3.cell? ⟨w.heap.size, 1, none⟩ = some (.bool C) := bL3.cell 1; have cL2 : w3.cell? ⟨w.heap.size, 2, none⟩ = some (.int .i64 S) := bL3.cell 2)
        | (refine ⟨trivial, ?_⟩; gi_at_call 46; refine (CallsIn.inRound l (callsIn_wide.2 (HRF.out _))).mono ?_; rintro e w4 ⟨rfl, hb4⟩))
      have bS4 := bS3.below hb4
      have bF4 := bF3.below hb4
      have bL4 := bL3.below hb4
      have bN4 := bN3.below hb4
      have hB4 := hB3.trans (hb4.mono hB3.size)
      have hW4 : KeepsFrom W0.heap.size W w4 := hW3.trans (KeepsFrom.of_grownBy (grownBy_of_below hb4) (by simp))
      have hX4 : Below w.heap.size W w4 := (hb3.mono hsW).trans (hb4.mono hB3.size)
      have hR4 : w4.ownsRow w.heap.size 61 1 v SP.length (SP.flatMap cxE) := (OwnR.below ⟨rfl, HROW.out⟩ hb3 |>.below hb4).2
      have hN4 : w4.heap[w.heap.size + 1 + 1 + 1]? = W.heap[w.heap.size + 1 + 1 + 1]? := Eq.trans (show _ = _ from bN4) (Eq.symm (show _ = _ from bN))
      have HR4 := hid hR4
      clear hb3 hb4 bS3 bF3 bL3 bN3 hB3 hW3 cL0 cL1 cL2 hR4
      gi_loopw [30] (fun t wr => ∃ (j : Nat) (v' : Value), t = .int .i64 j ∧ j ≤ N ∧ Blk wr (w.heap.size + 1 + 1) #[v'] 60 ∧ Hid (wr.ownsRow w.heap.size 61 1 v' (SP ++ (List.range j).map fun (r : Nat) => (k, (r : Int))).length ((SP ++ (List.range j).map fun (r : Nat) => (k, (r : Int))).flatMap cxE)) ∧ Blk wr (w.heap.size + 1) #[.slice a n ca] 25 ∧ Blk wr w.heap.size #[.int .i64 Wd, .bool C, .int .i64 S] 27 ∧ Blk wr (w.heap.size + 1 + 1 + 1) #[.slice a n ca] 22 ∧ Below w.heap.size w wr ∧ KeepsFrom W0.heap.size W wr ∧ Below w.heap.size W wr) (fun t _ => N - (intOf t).toNat)
      case atStart => exact ⟨0, v, rfl, Nat.zero_le _, bS4, by simpa using HR4, bF4, bL4, bN4, hB4, hW4, hX4⟩
      case round =>
        obtain ⟨j, v', rfl, hj, bS5, HR5, bF5, bL5, bN5, hB5, hW5, hX5⟩ := hrel
        by_cases hjn : j < N
        · have hjn' : (j : Int) < (N : Int) := by omega
          have cS : wr.cell? ⟨w.heap.size + 1 + 1, 0, none⟩ = some v' := bS5.cell 0
          have hs5 := hB5.size
          have NO := fun w' => numberOf_any k (j : Int) w'
          obtain ⟨A, B, hAB⟩ : ∃ A B, cx (k, (j : Int)) = .complex .f64 A B := ⟨_, _, rfl⟩
          have hE : cxE (k, (j : Int)) = [.complex .f64 A B] := by unfold cxE; rw [hAB]
          rw [hAB] at NO
          have HNO : Hid _ := NO
          clear NO
          gi_wp2
          have hR5 := HR5.out
          have hlj : (SP ++ (List.range j).map fun (r : Nat) => (k, (r : Int))).length = SP.length + j := by simp
          generalize hLN : (SP ++ (List.range j).map fun (r : Nat) => (k, (r : Int))).length = LN at hR5 hlj
          have hLb : LN ≤ 650000 := by omega
          have HLJ := hid hlj
          clear hlj hLN
          obtain ⟨D, hD⟩ : ∃ D : World, { wr with drawn := wr.drawn + 1 } = D := ⟨_, rfl⟩
          have bd : Below wr.heap.size wr D := by rw [← hD]; exact (Below.refl _ _).drew
          refine rangeRegion (F := Fence.wide) (by kernel_rfl) (by kernel_rfl) (fun ac a' w' => ∃ (q : Value) (g' cap' : Nat), a' = (((((((ac.put (some 33) v').put (some 34) (.int .i64 k)).put (some 35) (.int .i64 (j : Int))).put (some 36) (.agg #[.int .i64 k, .int .i64 (j : Int)])).put (some 37) (Value.complex .f64 A B)).put (some 38) q).put (some 39) (.slice (some ⟨g', 0, none⟩) (LN + 1) cap')) ∧ Blk w' (w.heap.size + 1 + 1) #[.slice (some ⟨g', 0, none⟩) (LN + 1) cap'] 60 ∧ w'.ownsRow w.heap.size 61 1 (.slice (some ⟨g', 0, none⟩) (LN + 1) cap') (LN + 1) ((SP ++ (List.range j).map fun (r : Nat) => (k, (r : Int))).flatMap cxE ++ [.complex .f64 A B]) ∧ Blk w' (w.heap.size + 1) #[.slice a n ca] 25 ∧ Blk w' w.heap.size #[.int .i64 Wd, .bool C, .int .i64 S] 27 ∧ Blk w' (w.heap.size + 1 + 1 + 1) #[.slice a n ca] 22 ∧ Below w.heap.size w w' ∧ KeepsFrom W0.heap.size W w' ∧ Below w.heap.size W w') ?_ ?_
          · rw [hD]
            clear hD
            have bS6 := bS5
            have bF6 := bF5
            have bL6 := bL5
            have bN6 := bN5
            have hB6 := hB5
            have hW6 := hW5
            have hX6 := hX5
            have hR6 := hR5
            clear bS5 bF5 bL5 bN5 hB5 hW5 hX5 hR5 HR5 cS hs5
            replace bS6 := bS6.below bd
            replace bF6 := bF6.below bd
            replace bL6 := bL6.below bd
            replace bN6 := bN6.below bd
            replace hW6 := hW6.trans (KeepsFrom.of_grownBy (grownBy_of_below bd) (by simp))
            replace hX6 := hX6.trans (bd.mono hB6.size)
            replace hR6 := ownsRow_later hR6 bd
            replace hB6 := hB6.trans (bd.mono hB6.size)
            clear bd
            refine wpAnyIn_take (i := 1) (v := .int .i64 k) rfl rfl (by kernel_rfl) (by kernel_rfl) (by kernel_rfl) (fun _ _ _ h => nomatch h.1) ⟨Or.inl ⟨by rfl, ?_⟩, fun _ => rfl⟩ ?_
            · intro w; go_simp
            simp only [Act.put, List.setIfInBounds_toArray, List.set_cons_zero, List.set_cons_succ]
            refine wpAnyIn_take (i := 2) (v := .int .i64 (j : Int)) rfl rfl (by kernel_rfl) (by kernel_rfl) (by kernel_rfl) (fun _ _ _ h => nomatch h.1) ⟨Or.inl ⟨by rfl, ?_⟩, fun _ => rfl⟩ ?_
            · intro w; go_simp
            simp only [Act.put, List.setIfInBounds_toArray, List.set_cons_zero, List.set_cons_succ]
            refine wpAnyIn_take (i := 3) (v := .agg #[.int .i64 k, .int .i64 (j : Int)]) rfl rfl (by kernel_rfl) (by kernel_rfl) (by kernel_rfl) (fun _ _ _ h => nomatch h.1) ⟨Or.inl ⟨by rfl, ?_⟩, fun _ => rfl⟩ ?_
            · intro w; go_simp
            simp only [Act.put, List.setIfInBounds_toArray, List.set_cons_zero, List.set_cons_succ]
            refine wpAnyIn_ready (rs := [0, 4]) (by kernel_rfl) (by simp) ?_
            refine AllReadyIn.cons rfl (fun K hK => ?_) (AllReadyIn.cons rfl (fun K hK => ?_) AllReadyIn.nil)
            · skip
              have hl := bS6.cell 0
              simp only [List.getElem?_toArray, List.getElem?_cons_zero] at hl
              go_simp
              refine hK _ _ ?_
              clear hK K
              clear hl
              refine wpAnyIn_ready (rs := [4]) (by kernel_rfl) (by simp) ?_
              refine AllReadyIn.cons rfl (fun K hK => ?_) AllReadyIn.nil
              go_simp
              refine ⟨trivial, (callsIn_wide.2 (HNO.out _)).mono ?_⟩
              rintro e w6 ⟨rfl, hc6⟩
              refine hK _ _ ?_
              clear hK K
              replace bS6 := bS6.below hc6
              replace bF6 := bF6.below hc6
              replace bL6 := bL6.below hc6
              replace bN6 := bN6.below hc6
              replace hW6 := hW6.trans (KeepsFrom.of_grownBy (grownBy_of_below hc6) (by simp))
              replace hX6 := hX6.trans (hc6.mono hB6.size)
              replace hR6 := ownsRow_later hR6 hc6
              replace hB6 := hB6.trans (hc6.mono hB6.size)
              clear hc6
              refine wpAnyIn_ready (rs := [5]) (by kernel_rfl) (by simp) ?_
              refine AllReadyIn.cons rfl (fun K hK => ?_) AllReadyIn.nil
              go_simp
              refine hK _ _ ?_
              clear hK K
              refine wpAnyIn_ready (rs := [6]) (by kernel_rfl) (by simp) ?_
              refine AllReadyIn.cons rfl (fun K hK => ?_) AllReadyIn.nil
              obtain ⟨v2, w8, hrun, r1, r2, -⟩ := run_append_own (P := Tryd.prog) (w6.alloc (.cells #[Value.complex .f64 A B] 61)) w.heap.size 60 60 61 i0 _ 1 16 Tryd.underlying60 hi hz0 hz1 hz2 rfl (by decide) v' _ _ (hR6.alloc _) ⟨w6.heap.size, 0, none⟩ 1 1 ([.complex .f64 A B]) rfl (cells_new w6 #[.complex .f64 A B] 61) (by simp [Value.oneCell']) (by unfold maxLen; omega) (by omega) (by have := hB6.size; simp; omega)
              obtain ⟨g', cap', rfl⟩ := ownsRow_succ r1
              obtain ⟨hv1, hv2, hr2, hk2, hb2⟩ := Boxed.appended bS6 (by decide) hR6 hB6.size (by omega) r1 r2
              have bF8 := ((bF6.alloc (.cells #[Value.complex .f64 A B] 61)).kept r2 (Blk.not_row (bF6.alloc (.cells #[Value.complex .f64 A B] 61)) (by decide) (hR6.alloc _))).other (B' := w.heap.size + 1 + 1) (i := 0) (by omega) (Value.slice (some ⟨g', 0, none⟩) (LN + 1) cap')
              have bL8 := ((bL6.alloc (.cells #[Value.complex .f64 A B] 61)).kept r2 (Blk.not_row (bL6.alloc (.cells #[Value.complex .f64 A B] 61)) (by decide) (hR6.alloc _))).other (B' := w.heap.size + 1 + 1) (i := 0) (by omega) (Value.slice (some ⟨g', 0, none⟩) (LN + 1) cap')
              have bN8 := ((bN6.alloc (.cells #[Value.complex .f64 A B] 61)).kept r2 (Blk.not_row (bN6.alloc (.cells #[Value.complex .f64 A B] 61)) (by decide) (hR6.alloc _))).other (B' := w.heap.size + 1 + 1) (i := 0) (by omega) (Value.slice (some ⟨g', 0, none⟩) (LN + 1) cap')
              refine opIn_append _ _ _ rfl rfl rfl rfl hrun ?_
              refine hK _ _ ?_
              clear hK K
              simp only [Act.put, List.setIfInBounds_toArray, List.set_cons_zero, List.set_cons_succ]
              have hc1 := hv1.cell
              have hf1 := hv1.frozen
              refine wpAnyIn_ready (rs := [7]) (by kernel_rfl) (by simp) ?_
              refine AllReadyIn.cons rfl (fun K hK => ?_) AllReadyIn.nil
              go_simp
              refine hK _ _ ?_
              clear hK K
              refine wpAnyIn_done (by kernel_rfl) ?_ _
              exact ⟨rfl, _, g', cap', rfl, hv2, hr2, bF8, bL8, bN8, hB6.trans hb2, hW6.trans (hk2.from _), hX6.trans hb2⟩
            · skip
              go_simp
              refine ⟨trivial, (callsIn_wide.2 (HNO.out _)).mono ?_⟩
              rintro e w6 ⟨rfl, hc6⟩
              refine hK _ _ ?_
              clear hK K
              replace bS6 := bS6.below hc6
              replace bF6 := bF6.below hc6
              replace bL6 := bL6.below hc6
              replace bN6 := bN6.below hc6
              replace hW6 := hW6.trans (KeepsFrom.of_grownBy (grownBy_of_below hc6) (by simp))
              replace hX6 := hX6.trans (hc6.mono hB6.size)
              replace hR6 := ownsRow_later hR6 hc6
              replace hB6 := hB6.trans (hc6.mono hB6.size)
              clear hc6
              refine wpAnyIn_ready (rs := [0, 5]) (by kernel_rfl) (by simp) ?_
              refine AllReadyIn.cons rfl (fun K hK => ?_) (AllReadyIn.cons rfl (fun K hK => ?_) AllReadyIn.nil)
              · skip
                have hl := bS6.cell 0
                simp only [List.getElem?_toArray, List.getElem?_cons_zero] at hl
                go_simp
                refine hK _ _ ?_
                clear hK K
                clear hl
                refine wpAnyIn_ready (rs := [5]) (by kernel_rfl) (by simp) ?_
                refine AllReadyIn.cons rfl (fun K hK => ?_) AllReadyIn.nil
                go_simp
                refine hK _ _ ?_
                clear hK K
                refine wpAnyIn_ready (rs := [6]) (by kernel_rfl) (by simp) ?_
                refine AllReadyIn.cons rfl (fun K hK => ?_) AllReadyIn.nil
                obtain ⟨v2, w8, hrun, r1, r2, -⟩ := run_append_own (P := Tryd.prog) (w6.alloc (.cells #[Value.complex .f64 A B] 61)) w.heap.size 60 60 61 i0 _ 1 16 Tryd.underlying60 hi hz0 hz1 hz2 rfl (by decide) v' _ _ (hR6.alloc _) ⟨w6.heap.size, 0, none⟩ 1 1 ([.complex .f64 A B]) rfl (cells_new w6 #[.complex .f64 A B] 61) (by simp [Value.oneCell']) (by unfold maxLen; omega) (by omega) (by have := hB6.size; simp; omega)
                obtain ⟨g', cap', rfl⟩ := ownsRow_succ r1
                obtain ⟨hv1, hv2, hr2, hk2, hb2⟩ := Boxed.appended bS6 (by decide) hR6 hB6.size (by omega) r1 r2
                have bF8 := ((bF6.alloc (.cells #[Value.complex .f64 A B] 61)).kept r2 (Blk.not_row (bF6.alloc (.cells #[Value.complex .f64 A B] 61)) (by decide) (hR6.alloc _))).other (B' := w.heap.size + 1 + 1) (i := 0) (by omega) (Value.slice (some ⟨g', 0, none⟩) (LN + 1) cap')
                have bL8 := ((bL6.alloc (.cells #[Value.complex .f64 A B] 61)).kept r2 (Blk.not_row (bL6.alloc (.cells #[Value.complex .f64 A B] 61)) (by decide) (hR6.alloc _))).other (B' := w.heap.size + 1 + 1) (i := 0) (by omega) (Value.slice (some ⟨g', 0, none⟩) (LN + 1) cap')
                have bN8 := ((bN6.alloc (.cells #[Value.complex .f64 A B] 61)).kept r2 (Blk.not_row (bN6.alloc (.cells #[Value.complex .f64 A B] 61)) (by decide) (hR6.alloc _))).other (B' := w.heap.size + 1 + 1) (i := 0) (by omega) (Value.slice (some ⟨g', 0, none⟩) (LN + 1) cap')
                refine opIn_append _ _ _ rfl rfl rfl rfl hrun ?_
                refine hK _ _ ?_
                clear hK K
                simp only [Act.put, List.setIfInBounds_toArray, List.set_cons_zero, List.set_cons_succ]
                have hc1 := hv1.cell
                have hf1 := hv1.frozen
                refine wpAnyIn_ready (rs := [7]) (by kernel_rfl) (by simp) ?_
                refine AllReadyIn.cons rfl (fun K hK => ?_) AllReadyIn.nil
                go_simp
                refine hK _ _ ?_
                clear hK K
                refine wpAnyIn_done (by kernel_rfl) ?_ _
                exact ⟨rfl, _, g', cap', rfl, hv2, hr2, bF8, bL8, bN8, hB6.trans hb2, hW6.trans (hk2.from _), hX6.trans hb2⟩
              · skip
                go_simp
                refine hK _ _ ?_
                clear hK K
                refine wpAnyIn_ready (rs := [0]) (by kernel_rfl) (by simp) ?_
                refine AllReadyIn.cons rfl (fun K hK => ?_) AllReadyIn.nil
                have hl := (bS6.alloc (.cells #[Value.complex .f64 A B] 61)).cell 0
                simp only [List.getElem?_toArray, List.getElem?_cons_zero] at hl
                go_simp
                refine hK _ _ ?_
                clear hK K
                clear hl
                refine wpAnyIn_ready (rs := [6]) (by kernel_rfl) (by simp) ?_
                refine AllReadyIn.cons rfl (fun K hK => ?_) AllReadyIn.nil
                obtain ⟨v2, w8, hrun, r1, r2, -⟩ := run_append_own (P := Tryd.prog) (w6.alloc (.cells #[Value.complex .f64 A B] 61)) w.heap.size 60 60 61 i0 _ 1 16 Tryd.underlying60 hi hz0 hz1 hz2 rfl (by decide) v' _ _ (hR6.alloc _) ⟨w6.heap.size, 0, none⟩ 1 1 ([.complex .f64 A B]) rfl (cells_new w6 #[.complex .f64 A B] 61) (by simp [Value.oneCell']) (by unfold maxLen; omega) (by omega) (by have := hB6.size; simp; omega)
                obtain ⟨g', cap', rfl⟩ := ownsRow_succ r1
                obtain ⟨hv1, hv2, hr2, hk2, hb2⟩ := Boxed.appended bS6 (by decide) hR6 hB6.size (by omega) r1 r2
                have bF8 := ((bF6.alloc (.cells #[Value.complex .f64 A B] 61)).kept r2 (Blk.not_row (bF6.alloc (.cells #[Value.complex .f64 A B] 61)) (by decide) (hR6.alloc _))).other (B' := w.heap.size + 1 + 1) (i := 0) (by omega) (Value.slice (some ⟨g', 0, none⟩) (LN + 1) cap')
                have bL8 := ((bL6.alloc (.cells #[Value.complex .f64 A B] 61)).kept r2 (Blk.not_row (bL6.alloc (.cells #[Value.complex .f64 A B] 61)) (by decide) (hR6.alloc _))).other (B' := w.heap.size + 1 + 1) (i := 0) (by omega) (Value.slice (some ⟨g', 0, none⟩) (LN + 1) cap')
                have bN8 := ((bN6.alloc (.cells #[Value.complex .f64 A B] 61)).kept r2 (Blk.not_row (bN6.alloc (.cells #[Value.complex .f64 A B] 61)) (by decide) (hR6.alloc _))).other (B' := w.heap.size + 1 + 1) (i := 0) (by omega) (Value.slice (some ⟨g', 0, none⟩) (LN + 1) cap')
                refine opIn_append _ _ _ rfl rfl rfl rfl hrun ?_
                refine hK _ _ ?_
                clear hK K
                simp only [Act.put, List.setIfInBounds_toArray, List.set_cons_zero, List.set_cons_succ]
                have hc1 := hv1.cell
                have hf1 := hv1.frozen
                refine wpAnyIn_ready (rs := [7]) (by kernel_rfl) (by simp) ?_
                refine AllReadyIn.cons rfl (fun K hK => ?_) AllReadyIn.nil
                go_simp
                refine hK _ _ ?_
                clear hK K
                refine wpAnyIn_done (by kernel_rfl) ?_ _
                exact ⟨rfl, _, g', cap', rfl, hv2, hr2, bF8, bL8, bN8, hB6.trans hb2, hW6.trans (hk2.from _), hX6.trans hb2⟩
          · rintro a' w9 ⟨q, g', cap', rfl, bS9, hR9, bF9, bL9, bN9, hB9, hW9, hX9⟩
            (try simp only [Act.put, List.setIfInBounds_toArray, List.set_cons_zero, List.set_cons_succ])
            clear bS5 bF5 bL5 bN5 hB5 hW5 hX5 hR5 cS hs5 HR5 hD bd
            have hR10 : w9.ownsRow w.heap.size 61 1 (.slice (some ⟨g', 0, none⟩) (LN + 1) cap') (SP ++ (List.range (j + 1)).map fun (r : Nat) => (k, (r : Int))).length ((SP ++ (List.range (j + 1)).map fun (r : Nat) => (k, (r : Int))).flatMap cxE) := by
              have e1 : (SP ++ (List.range (j + 1)).map fun (r : Nat) => (k, (r : Int))) = (SP ++ (List.range j).map fun (r : Nat) => (k, (r : Int))) ++ [(k, (j : Int))] := by rw [List.range_succ]; simp
              have e2 : (SP ++ (List.range (j + 1)).map fun (r : Nat) => (k, (r : Int))).length = LN + 1 := by rw [HLJ.out]; simp; omega
              rw [e2, e1, List.flatMap_append]
              simp only [List.flatMap_cons, List.flatMap_nil, List.append_nil, hE]
              simpa using hR9
            have HR10 := hid hR10
            clear hR9 hR10
            gi_wp2
            go_roundw
            case rel => exact ⟨j + 1, _, by go_num, by omega, bS9, HR10, bF9, bL9, bN9, hB9, hW9, hX9⟩
            case measure => simp [intOf]; omega
        · have hjn' : ¬ (j : Int) < (N : Int) := by omega
          obtain rfl : j = N := by omega
          rw [← HSN.out] at HR5
          have hN5 : wr.heap[w.heap.size + 1 + 1 + 1]? = W.heap[w.heap.size + 1 + 1 + 1]? := Eq.trans (show _ = _ from bN5) (Eq.symm (show _ = _ from bN))
          gi_wp2
          refine ⟨(by rw [← hsz]; exact hW5), ⟨hX5, hN5⟩, ⟨⟨⟨⟨_, bS5, ?_⟩, bF5⟩, bL5⟩, bN5⟩, hB5⟩
          first
            | (simp only [HPRE.out]; exact HR5.out)
            | (have h := HR5.out; simp only [hcf'] at h; simp only [List.map_append, List.map_cons, List.map_nil]; exact h)
  case done =>
    rintro D ys W hD hys ⟨⟨⟨⟨⟨v, bS, hrow⟩, bF⟩, bL⟩, bN⟩, hB1⟩ hK
    rw [hys, spN_all] at hrow
    have hcl := cnt_len C Wd xs
    have cS : W.cell? ⟨w.heap.size + 1 + 1, 0, none⟩ = some v := bS.cell 0
    by_cases hc : cnt C Wd xs = []
    · rw [hc] at hrow
      have HC := hid hc
      have ho : OwnR cxE 1 61 W w.heap.size v 0 ([] : List (Int × Int)) := ⟨rfl, hrow⟩
      obtain ⟨av, cv, rfl, -⟩ := ho.rd cxE_len
      clear hrow ho hcl hys hc
      gi_wp2
      have hK2 := (Below.heap_alloc W (.cells #[.complex .f64 0 0] 61) D (Array.getElem?_eq_some_iff.1 hK).1).trans hK
      have hr2 : OwnR cxE 1 61 (W.alloc (.cells #[.complex .f64 0 0] 61)) w.heap.size (.slice (some ⟨W.heap.size, 0, none⟩) 1 1) 1 [((0 : Int), (0 : Int))] :=
        ⟨rfl, rfl, .inr ⟨W.heap.size, 1, #[.complex .f64 0 0], rfl, hB1.size, heap_alloc_new W _, Nat.le_refl _, by simp [maxLen], rfl, by
          have : FloatKind.f64.nearest 0 = 0 := by decide
          simp [cxE, cx, this]⟩⟩
      refine ⟨by simp, .inl ⟨_, _, rfl, run_takeDeferred hK2, ?_⟩⟩
      refine ⟨.slice (some ⟨W.heap.size, 0, none⟩) 1 1, by simp [results, Tryd.results26, go_sem], _, rfl, ?_, (hB1.alloc hB1.size _).trans (belowK_b (w := w) (Nat.le_refl _) _ D _ _ (by omega) hK2 rfl rfl)⟩
      rw [HC.out]
      exact RowS.of ⟨hr2.1, ownsRow_putObj hr2.2 _ hK2 rfl⟩
    · have hlp : 0 < (spots 0 (cnt C Wd xs)).length := by
        rw [spots_len]
        obtain ⟨c, cs, he⟩ := List.exists_cons_of_ne_nil hc
        have := cnt_pos (C := C) (xs := xs) hW c (by rw [he]; exact List.mem_cons_self ..)
        rw [he, List.sum_cons]; omega
      have hsa : spAll (cnt C Wd xs) = spots 0 (cnt C Wd xs) := by unfold spAll cs1; rw [if_neg hc]
      have ho : OwnR cxE 1 61 W w.heap.size v (spots 0 (cnt C Wd xs)).length (spots 0 (cnt C Wd xs)) := ⟨rfl, hrow⟩
      obtain ⟨av, cv, rfl, -⟩ := ho.rd cxE_len
      have HSA := hid hsa
      have hspl : (spots 0 (cnt C Wd xs)).length = (spAll (cnt C Wd xs)).length := by rw [hsa]
      generalize hLL : (spots 0 (cnt C Wd xs)).length = LL at *
      have hLI : ¬ (LL : Int) = 0 := by omega
      have HSPL := hid hspl
      clear hrow hcl hys hc hsa hspl hLL
      gi_wp2
      refine ⟨by simp, .inl ⟨_, _, rfl, run_takeDeferred hK, ?_⟩⟩
      refine ⟨.slice av LL cv, by simp [results, Tryd.results26, go_sem], _, rfl, ?_, hB1.trans (belowK_b (w := w) (Nat.le_refl _) W D _ _ (by omega) hK rfl rfl)⟩
      rw [← HSPL.out, HSA.out]
      exact RowS.of ⟨ho.1, ownsRow_putObj ho.2 _ hK rfl⟩
  case stop =>
    rintro D c pre W _ _ h _
    exact h.elim
end Go.Proofs.YtjgmkcmlkffjlaaDoor
