/-
  Mem1, MapS, Mem2, Mem3M in one text.
-/
import Derived.Deep.RegionHeld3
import Derived.Maps.RangeWalk
import Derived.Maps.OwnSet
import Derived.DeepKeys4
import Derived.Test.YtlemdjgpkmjihaaGreatMem0
import Derived.Test.YtlemdjgpkmjihaaGreatSetB
import Derived.Test.YtlemdjgpkmjihaaGreatProg2
import Derived.Test.YtlemdjgpkmjihaaGreatSetM
import Derived.Test.YtlemdjgpkmjihaaGreatChg
import Derived.Test.YtlemdjgpkmjihaaGreatRun2a
namespace Go.Proofs.YtlemdjgpkmjihaaGreat
open Go.RowKit
set_option linter.unusedVariables false
set_option linter.unusedSimpArgs false

theorem clip_any (a : Option Addr) (n ca : Nat) (w : World) (h : n ≤ ca) (hm : ca ≤ maxLen) :
    Calls Tryz.prog 62 #[.slice a n ca] w fun e w' => e = .returned (.slice a n n) ∧ w' = w := by
  unfold maxLen at hm
  go_enter Tryz.func62, Tryz.ntmps62
  go_wp2
  go_ret
  exact ⟨rfl, rfl⟩

/-- The step that bears a program in the box q. -/
abbrev stepV (q : Nat) : Value := .func (.func 63) #[] #[.pointer (some ⟨q, 0, none⟩)]

theorem stepOf_any (i : Option Addr) (ni ci : Nat) (w : World) :
    Calls Tryz.prog 34 #[.slice i ni ci] w fun e w' => e = .returned (stepV w.heap.size) ∧ w' = w.alloc (.cells #[.slice i ni ci] 34) := by
  go_enter Tryz.func34, Tryz.ntmps34
  go_wp2
  go_ret
  exact ⟨rfl, rfl⟩

set_option maxHeartbeats 1600000 in
set_option maxRecDepth 20000 in
theorem stepFn_any (q : Nat) (a : Option Addr) (n ca : Nat) (is : List In) (hin : Inside is) (hn : n ≤ 80) (d : Int) (hd0 : 0 ≤ d) (hd1 : d < 256) (bs : List Bool) (hl : bs.length = 80) (hbn : BelowN bs n) (w : World) (ha : RdR inE 8 w a n is) (hq : w.cell? ⟨q, 0, none⟩ = some (.slice a n ca)) :
    Calls Tryz.prog 63 #[.agg (boolsA bs), .int .u8 d, .pointer (some ⟨q, 0, none⟩)] w fun r w' => r = .returned (.agg (boolsA (nextI is bs d))) ∧ Below w.heap.size w w' := by
  have hlen := ha.1
  obtain ⟨R, hR⟩ : ∃ R, R = boolsA (nextI is bs d) := ⟨_, rfl⟩
  rw [← hR]
  obtain ⟨e1, e2, e3, e4⟩ := next_eq hin (by omega) false d hl (by rw [hlen]; exact hbn)
  have HST0 := fun w' h' => stepped_any a n ca is hin d hd0 hd1 hn bs w' hl h'
  have HCL0 := fun w' h' => closed_any a n ca is false false hin hn (stepI is d (placesTo bs n)) w' (stepI_len _ _ _) (by rw [hlen] at e2; exact e2) h'
  have hA6 : R = boolsA (closeI is false false (placesOf (stepI is d (placesTo bs n)))) := by rw [hR, nextI, hlen]
  rw [← hA6] at HCL0
  have hs6 : R.size = 80 := by rw [hA6]; rw [← hlen]; exact size_set80 e4
  have ho6 : R.all (·.oneCell') = true := by rw [hR]; exact boolsA_one _
  obtain ⟨Z, hZ⟩ : ∃ Z, Z = boolsA (List.replicate 80 false) := ⟨_, rfl⟩
  have hzv := zero80
  rw [← hZ] at hzv
  have HZS : Hid (Z.size = 80) := by rw [hZ]; exact size_set80 (by simp)
  obtain ⟨A, hA⟩ : ∃ A, A = boolsA bs := ⟨_, rfl⟩
  rw [← hA] at HST0 ⊢
  have HSA : Hid (A.size = 80) := by rw [hA]; exact size_set80 hl
  generalize boolsA (stepI is d (placesTo bs n)) = A5 at HST0 HCL0
  generalize R = A6 at *
  have HST := hid HST0
  have HCL := hid HCL0
  have HS6 := hid hs6
  have HO6 := hid ho6
  have hqlt : q < w.heap.size := block_lt_of_cell hq
  have hB2 : Below w.heap.size w ((w.alloc (.cells A 111)).alloc (.cells Z 111)) := ((Below.refl _ _).alloc (Nat.le_refl _) _).alloc (by simp) _
  have HB0 : Hid (Blk ((w.alloc (.cells A 111)).alloc (.cells Z 111)).drew w.heap.size A 111) := (Blk.new w A 111).alloc _
  have HB1 : Hid (Blk ((w.alloc (.cells A 111)).alloc (.cells Z 111)).drew (w.heap.size + 1) Z 111) := by
    have h := Blk.new (w.alloc (.cells A 111)) Z 111
    rw [show (w.alloc (.cells A 111)).heap.size = w.heap.size + 1 by simp] at h
    exact h
  have HBW := hid hB2.drew
  have hq2 := cell_later hB2 hq
  clear hlen hR e1 e2 e3 e4 HST0 HCL0 hA6 hs6 ho6 hZ hA hB2
  go_enter Tryz.func63, Tryz.ntmps63
  go_wp2_with fail
  refine wp_region_held_drew (S := fun w' => w'.cell? ⟨q, 0, none⟩ = some (.slice a n ca)) (by kernel_rfl) (by exact hq2) (fun hS => ?_)
  refine wpAnyH_take (i := 1) (v := (.slice a n ca)) rfl (by as_aux_lemma => kernel_rfl) (by as_aux_lemma => kernel_rfl) (by as_aux_lemma => kernel_rfl) (fun _ _ _ h => h) (Or.inl ⟨by kernel_rfl, ?_⟩) hS ?_
  · intro w hSw; (try dsimp only at hSw); go_simp
  simp only [Act.put, List.getElem_toArray, List.getElem_cons_zero, List.getElem_cons_succ, List.setIfInBounds_toArray, List.set_cons_zero, List.set_cons_succ]
  refine wpAnyH_take (i := 2) (v := (.int .u8 d)) rfl (by as_aux_lemma => kernel_rfl) (by as_aux_lemma => kernel_rfl) (by as_aux_lemma => kernel_rfl) (fun _ _ _ h => h) (Or.inl ⟨by kernel_rfl, ?_⟩) hS ?_
  · intro w hSw; (try dsimp only at hSw); go_simp
  simp only [Act.put, List.getElem_toArray, List.getElem_cons_zero, List.getElem_cons_succ, List.setIfInBounds_toArray, List.set_cons_zero, List.set_cons_succ]
  refine wpAnyH_take (i := 4) (v := (.slice a n ca)) rfl (by as_aux_lemma => kernel_rfl) (by as_aux_lemma => kernel_rfl) (by as_aux_lemma => kernel_rfl) (fun _ _ _ h => h) (Or.inl ⟨by kernel_rfl, ?_⟩) hS ?_
  · intro w hSw; (try dsimp only at hSw); go_simp
  simp only [Act.put, List.getElem_toArray, List.getElem_cons_zero, List.getElem_cons_succ, List.setIfInBounds_toArray, List.set_cons_zero, List.set_cons_succ]
  refine wpAnyH_ready (rs := [0]) (by as_aux_lemma => kernel_rfl) (by simp) ?_
  refine AllReadyH.cons rfl (fun K hK => ?_) AllReadyH.nil
  rw [if_pos (by rfl)]
  refine wp_load_row 111 _ rfl w.heap.size rfl 111 A (0, 0) _ HB0.out under80 rfl (size80 HSA.out) ?_
  refine hK.out _ _ hS (fun hS => ?_)
  clear hK K
  (try simp only [Act.put, List.getElem_toArray, List.getElem_cons_zero, List.getElem_cons_succ, List.setIfInBounds_toArray, List.set_cons_zero, List.set_cons_succ])
  refine wpAnyH_ready (rs := [3]) (by as_aux_lemma => kernel_rfl) (by simp) ?_
  refine AllReadyH.cons rfl (fun K hK => ?_) AllReadyH.nil
  go_simp
  refine (HST.out _ (ha.below HBW.out)).mono ?_
  rintro r5 w5 ⟨rfl, hb5⟩
  have HB5 := hid (HB1.out.below hb5)
  refine hK.out _ _ (cell_later hb5 hS) (fun hS5 => ?_)
  clear hK K hS
  have hS := hS5
  clear hS5
  have hbw5 := HBW.out.trans (hb5.mono HBW.out.size)
  clear hb5
  (try simp only [Act.put, List.getElem_toArray, List.getElem_cons_zero, List.getElem_cons_succ, List.setIfInBounds_toArray, List.set_cons_zero, List.set_cons_succ])
  refine wpAnyH_ready (rs := [5]) (by as_aux_lemma => kernel_rfl) (by simp) ?_
  refine AllReadyH.cons rfl (fun K hK => ?_) AllReadyH.nil
  go_simp
  refine (HCL.out _ (ha.below hbw5)).mono ?_
  rintro r6 w6 ⟨rfl, hb6⟩
  have HB6 := hid (HB5.out.below hb6)
  refine hK.out _ _ (cell_later hb6 hS) (fun hS6 => ?_)
  clear hK K hS
  have hS := hS6
  clear hS6
  have hbw6 := hbw5.trans (hb6.mono hbw5.size)
  clear hb6
  (try simp only [Act.put, List.getElem_toArray, List.getElem_cons_zero, List.getElem_cons_succ, List.setIfInBounds_toArray, List.set_cons_zero, List.set_cons_succ])
  refine wpAnyH_ready (rs := [6]) (by as_aux_lemma => kernel_rfl) (by simp) ?_
  refine AllReadyH.cons rfl (fun K hK => ?_) AllReadyH.nil
  rw [if_pos (by rfl)]
  refine wp_store_row 111 _ _ rfl (w.heap.size + 1) A6 rfl rfl 111 Z HB6.out (size80 HS6.out) (HZS.out.trans HS6.out.symm) HO6.out ?_
  refine hK.out _ _ ((World.cell?_of_block (setRow_other w6 (w.heap.size + 1) q A6 (by omega))).trans hS) (fun hS7 => ?_)
  clear hK K hS
  have hS := hS7
  clear hS7
  (try simp only [Act.put, List.getElem_toArray, List.getElem_cons_zero, List.getElem_cons_succ, List.setIfInBounds_toArray, List.set_cons_zero, List.set_cons_succ])
  refine wpAnyH_done (by kernel_rfl) ?_ _
  clear hS
  go_wp2
  refine bodyPost_ret (v := .agg A6) ?_ rfl ⟨rfl, below_setRow hbw6 (by omega) _⟩
  exact results_cell_row rfl _ _ _ 111 A6 (0, 0) _ rfl (HB6.out.setRow A6) under80 rfl (size80 HS6.out)
end Go.Proofs.YtlemdjgpkmjihaaGreat

namespace Go.Proofs.YtlemdjgpkmjihaaGreat
open Go.RowKit Go.ChangeMaps Go.MapKept
open Go.Maps (Keyed)
set_option linter.unusedVariables false

/-- An entry: a set, and the place of its state. -/
structure Es where
  st : List Bool
  at_ : Int

def kvS (S : List Bool) : Value := .agg (boolsA S)
def hvS (i : Int) : Value := .int .i64 i
def esP (e : Es) : Value × Value := (kvS e.st, hvS e.at_)
def meS (x : MapEntry) : Value × Value := (x.key, x.val)

theorem boolsA_inj {a b : List Bool} (h : boolsA a = boolsA b) : a = b := by
  unfold boolsA at h
  have h2 : a.map Value.bool = b.map Value.bool := by simpa using h
  exact (List.map_inj_right (fun x y h => by simpa using h)).1 h2
theorem kvS_inj {a b : List Bool} (h : kvS a = kvS b) : a = b := boolsA_inj (by simpa [kvS] using h)

theorem laidS : laidOutB Tryz.prog = true := by kernel_rfl
theorem rowS80 : (111 : TypeId) < Tryz.prog.types.size := of_decide_eq_true (by kernel_rfl)
theorem wideS : (match Tryz.prog.underlying 111 with | some (.array _ _) | some (.struct _) => true | _ => false) = true := by rw [Tryz.underlying111]
set_option maxRecDepth 100000 in
theorem lawS : Keyed Tryz.prog 111 := Keyed.of_law (deep_law_laid laidS (m := 2) (by omega) rowS80 (by kernel_rfl) wideS)

/-- A key that the map can hold. -/
def SetOk (S : List Bool) : Prop := ∃ kl, keyOf Tryz.prog 111 (kvS S) = some kl

theorem keyLits_bools (P : Program) (d : Nat) (e : TypeId) (he : P.underlying e = some .bool) (hc : P.cellsOf e = 1) (S : List Bool) : ∀ (n k : Nat), k + n = S.length →
    ((List.range' k n).mapM fun i => P.keyLits (d + 1) e (((S.map Value.bool).drop (i * P.cellsOf e)).take (P.cellsOf e))) = some ((S.drop k).map fun b => [Lit.bool b]) := by
  intro n
  induction n with
  | zero =>
    intro k hk
    rw [List.drop_of_length_le (by omega)]
    rfl
  | succ n ih =>
    intro k hk
    have hkS : k < S.length := by omega
    have h1 : ((S.map Value.bool).drop (k * P.cellsOf e)).take (P.cellsOf e) = [Value.bool S[k]] := by
      rw [hc, Nat.mul_one, List.drop_eq_getElem_cons (by simpa using hkS)]
      simp
    rw [List.range'_succ, List.mapM_cons, h1, ih (k + 1) (by omega)]
    have h2 : P.keyLits (d + 1) e [Value.bool S[k]] = some [Lit.bool S[k]] := by
      rw [Program.keyLits]
      simp [he]
    rw [h2, List.drop_eq_getElem_cons hkS]
    rfl

set_option maxRecDepth 100000 in
theorem setOk {S : List Bool} (h : S.length = 80) : SetOk S := by
  have k1 : Tryz.prog.keyType 111 = true := by kernel_rfl
  have kc : Tryz.prog.cellsOf 111 = 80 := by kernel_rfl
  have ki : Tryz.prog.cellsOf 4 = 1 := by kernel_rfl
  have hu : Tryz.prog.underlying 111 = some (.array 80 4) := by kernel_rfl
  have hb : Tryz.prog.underlying 4 = some .bool := Tryz.underlying4
  have kf : (kvS S).formed Tryz.prog 111 = true := by
    simp [kvS, Value.formed, hu, kc, boolsA, h]
  unfold SetOk keyOf
  rw [hu]
  simp only [k1, kf, Bool.and_self, if_true]
  obtain ⟨d, hd⟩ : ∃ d, Tryz.prog.types.size + 1 = d + 1 + 1 := ⟨Tryz.prog.types.size - 1, by have h : (111 : Nat) < Tryz.prog.types.size := rowS80; omega⟩
  rw [hd, Program.keyLits.eq_def]
  simp only [hu]
  have hl : (kvS S).cells.toList.length = Tryz.prog.cellsOf 111 := by simp [kvS, Value.cells, boolsA, kc, h]
  simp only [hl, if_true]
  have hm := keyLits_bools Tryz.prog d 4 hb ki S 80 0 (by omega)
  rw [← List.range_eq_range'] at hm
  have hcs : (kvS S).cells.toList = S.map Value.bool := by simp [kvS, Value.cells, boolsA]
  rw [hcs, hm]
  exact ⟨_, rfl⟩

theorem undS : Tryz.prog.underlying 105 = some (.map 111 2) := Tryz.underlying105

/-- Block b is a map that holds just the entries B. -/
def OwnP (w : World) (b : Nat) (B : List Es) : Prop :=
  ∃ es clock, w.heap[b]? = some (.map es clock) ∧ Stamped es clock ∧ (es.toList.map meS).Perm (B.map (esP)) ∧ ∀ e ∈ B, SetOk e.st

section
variable {w w' : World} {b : Nat} {B : List Es}

theorem OwnP.lt (h : OwnP w b B) : b < w.heap.size := by
  obtain ⟨es, clock, hb, _⟩ := h
  exact (Array.getElem?_eq_some_iff.1 hb).1

theorem OwnP.below (h : OwnP w b B) (hb : Below w.heap.size w w') : OwnP w' b B := by
  have hlt := h.lt
  obtain ⟨es, clock, k1, k2⟩ := h
  exact ⟨es, clock, (hb.block b hlt).trans k1, k2⟩

theorem OwnP.kept {row : Option Nat} (h : OwnP w b B) (hg : w.grownBy w' row) (hne : some b ≠ row) : OwnP w' b B := by
  have hlt := h.lt
  obtain ⟨es, clock, k1, k2⟩ := h
  exact ⟨es, clock, (hg.block b hlt hne).trans k1, k2⟩

theorem OwnP.chg {lo hi : Nat} (h : OwnP w b B) (hc : Chg lo hi w w') (hr : b < lo ∨ hi ≤ b) : OwnP w' b B := by
  have hlt := h.lt
  obtain ⟨es, clock, k1, k2⟩ := h
  exact ⟨es, clock, (hc.block b hlt hr).trans k1, k2⟩

theorem ownP_made (w : World) : OwnP (w.alloc (.map #[] 0)) w.heap.size [] :=
  ⟨#[], 0, heap_alloc_new w _, ⟨by simp, by simp, by simp⟩, by simp, fun e he => by simp at he⟩

/-- What an entry of the array is. -/
theorem OwnP.mem_of {es : Array MapEntry} (hp : (es.toList.map meS).Perm (B.map (esP))) {x : MapEntry} (hx : x ∈ es.toList) : ∃ e ∈ B, x.key = kvS e.st ∧ x.val = hvS e.at_ := by
  have : meS x ∈ B.map (esP) := hp.mem_iff.1 (List.mem_map.2 ⟨x, hx, rfl⟩)
  obtain ⟨e, he, h⟩ := List.mem_map.1 this
  simp only [esP, meS, Prod.mk.injEq] at h
  exact ⟨e, he, h.1.symm, h.2.symm⟩

theorem OwnP.of_mem {es : Array MapEntry} (hp : (es.toList.map meS).Perm (B.map (esP))) {e : Es} (he : e ∈ B) : ∃ x ∈ es.toList, x.key = kvS e.st ∧ x.val = hvS e.at_ := by
  have : esP e ∈ es.toList.map meS := hp.mem_iff.2 (List.mem_map.2 ⟨e, he, rfl⟩)
  obtain ⟨x, hx, h⟩ := List.mem_map.1 this
  simp only [esP, meS, Prod.mk.injEq] at h
  exact ⟨x, hx, h.1, h.2⟩

theorem OwnP.nodup (h : OwnP w b B) : (B.map (·.st)).Nodup := by
  obtain ⟨es, clock, _, hst, hp, _⟩ := h
  have h1 : ((es.toList.map meS).map (·.1)).Nodup := by rw [List.map_map]; exact hst.2.2
  have h2 := (hp.map (·.1)).nodup_iff.1 h1
  rw [List.map_map] at h2
  have e : (B.map ((fun p : Value × Value => p.1) ∘ esP)) = (B.map (·.st)).map (kvS) := by rw [List.map_map]; rfl
  rw [e] at h2
  rw [List.Nodup, List.pairwise_map] at h2
  exact h2.imp (fun h e => h (by rw [e]))

theorem OwnP.keys {es : Array MapEntry} (hp : (es.toList.map meS).Perm (B.map (esP))) (hk : ∀ e ∈ B, SetOk e.st) : ∀ x ∈ es.toList, ∃ l, keyOf Tryz.prog 111 x.key = some l := fun x hx => by
  obtain ⟨e, he, h1, _⟩ := OwnP.mem_of hp hx
  rw [h1]
  exact hk e he

/-- A look-up that finds. -/
theorem OwnP.look {e : Es} (h : OwnP w b B) (he : e ∈ B) (c : Bool) :
    (Instr.lookup 105 (.map (some b)) (kvS e.st) c).run Tryz.prog w = .ok (if c then .tuple #[hvS e.at_, .bool true] else hvS e.at_) w := by
  obtain ⟨es, clock, hb, hst, hp, hk⟩ := h
  obtain ⟨kl, hkey⟩ := hk e he
  obtain ⟨x, hx, x1, x2⟩ := OwnP.of_mem hp he
  rcases lawS.find w hkey es.toList (OwnP.keys hp hk) with ⟨h1, h2⟩ | ⟨j, e0, h1, h2, h3⟩
  · exact absurd x1 (h2 x hx)
  · have hm0 : e0 ∈ es.toList := List.mem_of_getElem? h2
    have hee : e0 = x := entry_eq_of_key (by have := hst.2.2; rwa [List.Nodup, List.pairwise_map] at this) hm0 hx (by rw [h3, x1])
    subst hee
    simp [Instr.lookup, run_underlying undS, MapKept.run_getObj_map hb, lawS.check w _ hkey, h1, x2, Result.andThen]

/-- A look-up that finds nothing. -/
theorem OwnP.lookNot {num : List Bool} (h : OwnP w b B) (hok : SetOk num) (hn : ∀ e ∈ B, e.st ≠ num) (c : Bool) :
    (Instr.lookup 105 (.map (some b)) (kvS num) c).run Tryz.prog w = .ok (if c then .tuple #[hvS 0, .bool false] else hvS 0) w := by
  obtain ⟨es, clock, hb, hst, hp, hk⟩ := h
  obtain ⟨kl, hkey⟩ := hok
  rcases lawS.find w hkey es.toList (OwnP.keys hp hk) with ⟨h1, h2⟩ | ⟨j, e0, h1, h2, h3⟩
  · simp [Instr.lookup, run_underlying undS, MapKept.run_getObj_map hb, lawS.check w _ hkey, h1, Result.andThen]
    rfl
  · exfalso
    obtain ⟨e, he, q1, _⟩ := OwnP.mem_of hp (List.mem_of_getElem? h2)
    rw [h3] at q1
    exact hn e he (kvS_inj q1).symm

theorem setBlockS_grown (w : World) (b : Nat) (o : Obj) : w.grownBy (setBlock w b o) (some b) := by
  refine ⟨rfl, rfl, rfl, by simp [setBlock], fun i hi hr => ?_⟩
  unfold setBlock
  rw [Array.getElem?_setIfInBounds_ne (fun e => hr (by rw [e]))]

theorem setBlockS_at {w : World} {b : Nat} {o o' : Obj} (h : w.heap[b]? = some o') : (setBlock w b o).heap[b]? = some o := by
  have hlt := (Array.getElem?_eq_some_iff.1 h).1
  unfold setBlock
  simp [hlt]

/-- All but a number. -/
def butS (B : List Es) (num : List Bool) : List Es := B.filter fun e => decide (e.st ≠ num)

theorem butS_mem {B : List Es} {num : List Bool} {e : Es} : e ∈ butS B num ↔ e ∈ B ∧ e.st ≠ num := by
  simp [butS]

open Classical in
/-- Whoever bears another key: in the array as in the list. -/
theorem OwnP.others {es : Array MapEntry} (hp : (es.toList.map meS).Perm (B.map (esP))) (num : List Bool) :
    ((es.toList.filter fun x => decide (x.key ≠ kvS num)).map meS).Perm ((butS B num).map (esP)) := by
  have h1 := hp.filter (fun p : Value × Value => decide (p.1 ≠ kvS num))
  rw [List.filter_map, List.filter_map] at h1
  have e1 : (fun p : Value × Value => decide (p.1 ≠ kvS num)) ∘ meS = fun x : MapEntry => decide (x.key ≠ kvS num) := rfl
  have e2 : ∀ e : Es, ((fun p : Value × Value => decide (p.1 ≠ kvS num)) ∘ esP) e = decide (e.st ≠ num) := fun e => by
    have : (kvS e.st = kvS num) ↔ e.st = num := ⟨kvS_inj, fun h => by rw [h]⟩
    simp [esP, this]
  rw [e1] at h1
  have e3 : B.filter ((fun p : Value × Value => decide (p.1 ≠ kvS num)) ∘ esP) = butS B num := by
    unfold butS
    exact List.filter_congr (fun e _ => by rw [e2])
  rw [e3] at h1
  exact h1

theorem keysS_apart {es : Array MapEntry} {clock : Nat} (hst : Stamped es clock) : es.toList.Pairwise (fun x y => x.key ≠ y.key) := by
  have := hst.2.2
  rwa [List.Nodup, List.pairwise_map] at this

open Classical in
theorem filterS_split {l1 l2 : List MapEntry} {e0 : MapEntry} (h : (l1 ++ e0 :: l2).Pairwise (fun x y => x.key ≠ y.key)) : (l1 ++ e0 :: l2).filter (fun x => decide (x.key ≠ e0.key)) = l1 ++ l2 := by
  rw [List.pairwise_append] at h
  obtain ⟨h1, h2, h3⟩ := h
  rw [List.pairwise_cons] at h2
  rw [List.filter_append, List.filter_cons]
  simp only [ne_eq, not_true_eq_false, decide_false, Bool.false_eq_true, if_false]
  congr 1
  · exact List.filter_eq_self.2 (fun x hx => by simpa using h3 x hx e0 List.mem_cons_self)
  · exact List.filter_eq_self.2 (fun x hx => by simpa using fun e => h2.1 x hx e.symm)

open Classical in
theorem filterS_none {l : List MapEntry} {key : Value} (h : ∀ x ∈ l, x.key ≠ key) : l.filter (fun x => decide (x.key ≠ key)) = l :=
  List.filter_eq_self.2 (fun x hx => by simpa using h x hx)

/-- A store: the entry is the last one. -/
theorem OwnP.store {num : List Bool} {turn : Int} (h : OwnP w b B) (hok : SetOk num) :
    ∃ w', (Instr.mapUpdate 105 (.map (some b)) (kvS num) (hvS turn)).run Tryz.prog w = .ok () w' ∧ OwnP w' b (butS B num ++ [⟨num, turn⟩]) ∧ w.grownBy w' (some b) ∧ w'.heap.size = w.heap.size := by
  obtain ⟨es, clock, hb, hst, hp, hk⟩ := h
  obtain ⟨kl, hkey⟩ := hok
  have hk' : ∀ e ∈ butS B num ++ [⟨num, turn⟩], SetOk e.st := fun e he => by
    rcases List.mem_append.1 he with he | he
    · exact hk e (butS_mem.1 he).1
    · simp at he; rw [he]; exact ⟨kl, hkey⟩
  have ho := OwnP.others hp num
  rcases lawS.find w hkey es.toList (OwnP.keys hp hk) with ⟨h1, h2⟩ | ⟨j, e0, h1, h2, h3⟩
  · refine ⟨setBlock w b (.map (es.push ⟨kvS num, hvS turn, clock⟩) (clock + 1)), ?_, ⟨_, _, setBlockS_at hb, stamped_push hst h2, ?_, hk'⟩, setBlockS_grown _ _ _, by simp [setBlock]⟩
    · simp [Instr.mapUpdate, run_underlying undS, MapKept.run_getObj_map hb, lawS.check w false hkey, h1, MapKept.run_setObj_map _ hb, Result.andThen, setBlock]
    · rw [filterS_none h2] at ho
      rw [Array.toList_push, List.map_append, List.map_append]
      exact ho.append_right _
  · have hj : es[j]? = some e0 := by simpa using h2
    have hjl : j < es.toList.length := (List.getElem?_eq_some_iff.1 h2).1
    have hkeyf : ∀ e', es[j]? = some e' → ({ e' with key := kvS num, val := hvS turn } : MapEntry).key = e'.key := fun e' he' => by rw [hj] at he'; cases he'; exact h3.symm
    have hlist : (es.modify j (fun e' => { e' with key := kvS num, val := hvS turn })).toList = es.toList.set j { e0 with key := kvS num, val := hvS turn } := by rw [Array.toList_modify, modify_eq_set _ _ _ _ h2]
    refine ⟨setBlock w b (.map (es.modify j (fun e' => { e' with key := kvS num, val := hvS turn })) clock), ?_, ⟨_, _, setBlockS_at hb, stamped_modify hst _ _ (fun _ _ => rfl) (fun e' _ he' => hkeyf e' he'), ?_, hk'⟩, setBlockS_grown _ _ _, by simp [setBlock]⟩
    · simp [Instr.mapUpdate, run_underlying undS, MapKept.run_getObj_map hb, lawS.check w false hkey, h1, hj, h3, lawS.stays w hkey, MapKept.run_setObj_map _ hb, Result.andThen, setBlock]
    · rw [hlist]
      obtain ⟨l1, l2, e1, e2⟩ : ∃ l1 l2, es.toList = l1 ++ e0 :: l2 ∧ l1.length = j := by
        refine ⟨es.toList.take j, es.toList.drop (j + 1), ?_, by rw [List.length_take]; omega⟩
        have hge : es.toList[j] = e0 := (List.getElem?_eq_some_iff.1 h2).2
        rw [← hge, ← List.drop_eq_getElem_cons hjl, List.take_append_drop]
      have hap := keysS_apart hst
      rw [e1] at hap ho
      have hf := filterS_split hap
      rw [h3] at hf
      rw [hf] at ho
      rw [e1, set_mid _ _ e2, List.map_append, List.map_append, List.map_append]
      rw [List.map_append] at ho
      have p1 : (l1.map meS ++ [meS { e0 with key := kvS num, val := hvS turn }] ++ l2.map meS).Perm ((l1.map meS ++ l2.map meS) ++ [meS { e0 with key := kvS num, val := hvS turn }]) := by
        rw [List.append_assoc, List.append_assoc]
        exact (List.perm_append_comm).append_left _
      exact p1.trans (ho.append_right _)

/-- A clear. -/
theorem OwnP.clear (h : OwnP w b B) (ty : TypeId) :
    ∃ w', (Builtin.clear_ #[105] ty #[.map (some b)]).run Tryz.prog w = .ok (.tuple #[]) w' ∧ OwnP w' b [] ∧ w.grownBy w' (some b) ∧ w'.heap.size = w.heap.size := by
  obtain ⟨es, clock, hb, hst, hp, hk⟩ := h
  refine ⟨setBlock w b (.map #[] clock), ?_, ⟨_, _, setBlockS_at hb, ⟨by simp, by simp, by simp⟩, by simp, fun e he => by simp at he⟩, setBlockS_grown _ _ _, by simp [setBlock]⟩
  simp [Builtin.clear_, run_underlying undS, MapKept.run_getObj_map hb, MapKept.run_setObj_map _ hb, Result.andThen, setBlock]

theorem OwnP.len (h : OwnP w b B) (ty : TypeId) : (Builtin.len_ #[105] ty #[.map (some b)]).run Tryz.prog w = .ok (.int .i64 B.length) w := by
  obtain ⟨es, clock, hb, hst, hp, hk⟩ := h
  have hl := hp.length_eq
  simp at hl
  simp [Builtin.len_, run_underlying undS, MapKept.run_getObj_map hb, Result.andThen, hl, goInt]
end
end Go.Proofs.YtlemdjgpkmjihaaGreat

namespace Go.Proofs.YtlemdjgpkmjihaaGreat
open Go.RowKit
set_option linter.unusedVariables false
set_option linter.unusedSimpArgs false

theorem fold_list : ∀ (vs : List Value) (k : Nat) (cs : Array Value) (off : Nat), off + k + vs.length ≤ cs.size →
    ((vs.zipIdx k).foldl (fun (cs : Array Value) (p : Value × Nat) => cs.setIfInBounds (off + p.2) p.1) cs).toList = cs.toList.take (off + k) ++ vs ++ cs.toList.drop (off + k + vs.length)
  | [], k, cs, off, h => by simp
  | v :: vs, k, cs, off, h => by
    simp only [List.length_cons] at h
    rw [List.zipIdx_cons, List.foldl_cons, fold_list vs (k + 1) _ off (by simp; omega)]
    simp only [Array.toList_setIfInBounds, List.length_cons]
    have hk : off + k < cs.toList.length := by simp; omega
    rw [show off + (k + 1) = off + k + 1 by omega]
    have e1 : (cs.toList.set (off + k) v).take (off + k + 1) = cs.toList.take (off + k) ++ [v] := by
      rw [List.take_succ_eq_append_getElem (by simpa using hk), List.take_set_of_le (Nat.le_refl _)]
      simp
    have e2 : (cs.toList.set (off + k) v).drop (off + k + 1 + vs.length) = cs.toList.drop (off + k + 1 + vs.length) := by
      rw [List.drop_set_of_lt (by omega)]
    rw [e1, e2]
    simp only [List.append_assoc, List.singleton_append]
    congr 3
    omega
theorem fold_arr (vs cs : Array Value) (off : Nat) (h : off + vs.size ≤ cs.size) :
    (vs.zipIdx.foldl (fun (cs : Array Value) (p : Value × Nat) => cs.setIfInBounds (off + p.2) p.1) cs) = (cs.toList.take off ++ vs.toList ++ cs.toList.drop (off + vs.size)).toArray := by
  have h1 := fold_list vs.toList 0 cs off (by simpa using h)
  rw [← Array.foldl_toList, Array.toList_zipIdx]
  apply Array.ext'
  simpa using h1

section
variable {P : Program}
/-- A struct or an array that lies from a place on. -/
theorem run_loadVar_at (w : World) (g off : Nat) (ty : TypeId) (cs : List Value) (d : TypeDesc) (hc : ∀ j v, cs[j]? = some v → w.cell? ⟨g, off + j, none⟩ = some v)
    (hu : P.underlying ty = some d) (hd : (match d with | .struct _ | .array _ _ => true | _ => false) = true) (hi : (P.info? ty).map (·.size) = some cs.length) :
    (loadVar ty ⟨g, off, none⟩).run P w = .ok (.agg cs.toArray) w := by
  have hl : (loadCells ⟨g, off, none⟩ cs.length).run P w = .ok cs.toArray w :=
    run_loadCells_list (P := P) w ⟨g, off, none⟩ cs (fun j v hv => by
      rw [Addr.add_lit]
      exact hc j v hv)
  cases hq : P.info? ty with
  | none => simp [hq] at hi
  | some i =>
    have hs : i.size = cs.length := by simpa [hq] using hi
    have hagg : (isAgg ty).run P w = .ok true w := by
      unfold isAgg
      rw [Sem.run_bind, run_underlying hu w]
      cases d <;> simp_all
    simp [loadVar, Sem.run_bind, hagg, sizeOf, typeInfo, hq, hs, hl]

theorem wp_load_at {o : Oper} {a : Act} {w : World} {K : Act → World → Prop} {Q : Exit → Act → World → Prop} (ty : TypeId) (x : Operand) (ho : o.op = .load ty x)
    (g off : Nat) (hx : a.eval x = .pointer (some ⟨g, off, none⟩)) (cs : List Value) (d : TypeDesc) (hc : ∀ j v, cs[j]? = some v → w.cell? ⟨g, off + j, none⟩ = some v)
    (hu : P.underlying ty = some d) (hd : (match d with | .struct _ | .array _ _ => true | _ => false) = true) (hi : (P.info? ty).map (·.size) = some cs.length)
    (h : K (a.put o.dst (.agg cs.toArray)) w) : o.wp P a w K Q := by
  unfold Oper.wp execOp
  simp only [ho, hx, Instr.loadAt, Instr.sureAddr, Sem.run_bind, Sem.run_pure, Result.andThen_ok, run_loadVar_at w g off ty cs d hc hu hd hi]
  exact h

theorem wpList_load_at {ops : Array Oper} {rest : List Oper} {o : Oper} {a : Act} {w : World} {Q : Exit → Act → World → Prop} (hgd : o.guard = none) (ty : TypeId) (x : Operand) (ho : o.op = .load ty x)
    (g off : Nat) (hx : a.eval x = .pointer (some ⟨g, off, none⟩)) (cs : List Value) (d : TypeDesc) (hc : ∀ j v, cs[j]? = some v → w.cell? ⟨g, off + j, none⟩ = some v)
    (hu : P.underlying ty = some d) (hd : (match d with | .struct _ | .array _ _ => true | _ => false) = true) (hi : (P.info? ty).map (·.size) = some cs.length)
    (h : wpList P ops Q rest (a.put o.dst (.agg cs.toArray)) w) : wpList P ops Q (o :: rest) a w :=
  wpList_plain hgd fun _ hK => wp_load_at ty x ho g off hx cs d hc hu hd hi (hK _ _ h)
end

/-- A state's cells. -/
def mtC (S : List Bool) (v : Value) : List Value := S.map Value.bool ++ [v]
theorem mtC_len {S : List Bool} (h : S.length = 80) (v : Value) : (mtC S v).length = 81 := by simp [mtC, h]

theorem under81 : ∃ f0 f1, Tryz.prog.underlying 115 = some (.struct #[f0, f1]) ∧ (Tryz.prog.info? 115).map (fun i => (i.zero, i.size, i.bytes)) = some (some (.agg (mtC (List.replicate 80 false) (.slice none 0 0)).toArray), 81, 104) ∧
    #[f0, f1].toList.mapM (fun f => (Tryz.prog.info? f.type).map fun i => (f.offset, i.size)) = some [(0, 80), (80, 1)] := ⟨_, _, Tryz.underlying115, by kernel_rfl, by kernel_rfl⟩

theorem size81 {cs : List Value} (h : cs.length = 81) : (Tryz.prog.info? 115).map (·.size) = some cs.length := by
  obtain ⟨f0, f1, -, h2, -⟩ := under81
  rw [h]
  cases hq : Tryz.prog.info? 115 with
  | none => rw [hq] at h2; simp at h2
  | some i => rw [hq] at h2; simp at h2; simp [h2.2.1]

theorem zero81 (w : World) : (zeroValue 115).run Tryz.prog w = .ok (.agg (mtC (List.replicate 80 false) (.slice none 0 0)).toArray) w := by
  obtain ⟨f0, f1, -, h2, -⟩ := under81
  have h3 : (Tryz.prog.info? 115).map (fun i => (i.zero, i.size)) = some (some (.agg (mtC (List.replicate 80 false) (.slice none 0 0)).toArray), 81) := by
    cases hq : Tryz.prog.info? 115 with
    | none => rw [hq] at h2; simp at h2
    | some i => rw [hq] at h2; simp at h2; simp [h2.1, h2.2.1]
  exact (zero_of_info h3).1 w

set_option maxRecDepth 20000 in
theorem built81 (S : List Bool) (hS : S.length = 80) (v : Value) (hv : v.cells = #[v]) : Tryz.prog.built 115 [(0, .agg (boolsA S)), (1, v)] = some (mtC S v).toArray := by
  obtain ⟨f0, f1, h1, h2, h3⟩ := under81
  unfold Program.built
  rw [h1]
  cases hq : Tryz.prog.info? 115 with
  | none => rw [hq] at h2; simp at h2
  | some i =>
    rw [hq] at h2
    simp only [Option.map_some, Option.some.injEq, Prod.mk.injEq] at h2
    simp only [h2.1, h3]
    have hz : (mtC (List.replicate 80 false) (.slice none 0 0)).length = 81 := mtC_len (by simp) _
    generalize mtC (List.replicate 80 false) (.slice none 0 0) = Z at hz
    have hs1 : (Value.agg (boolsA S)).cells = boolsA S := rfl
    have hs2 : (Value.agg Z.toArray).cells = Z.toArray := rfl
    have hb : (boolsA S).size = 80 := by rw [boolsA_size, hS]
    rw [Instr.fill, hs1, hs2]
    simp only [List.getElem?_toArray, List.getElem?_cons_zero, hb, List.size_toArray, hz]
    rw [if_neg (by simp)]
    rw [fold_arr (boolsA S) Z.toArray 0 (by simp [hb, hz])]
    rw [Instr.fill, hv]
    simp only [List.getElem?_toArray, List.getElem?_cons_succ, List.getElem?_cons_zero]
    have hl : (List.take 0 Z.toArray.toList ++ (boolsA S).toList ++ List.drop (0 + (boolsA S).size) Z.toArray.toList).toArray.size = 81 := by simp [hb, hz]
    rw [if_neg (by rw [hl]; simp), fold_arr #[v] _ 80 (by rw [hl]; simp), Instr.fill]
    congr 1
    have e : (boolsA S).toList = S.map Value.bool := by simp [boolsA]
    simp [hb, e, mtC, hS, hz]

set_option maxRecDepth 20000 in
/-- One state, as a slice. -/
theorem slice81 (M : List Value) (hM : M.length = 81) (w : World) : (Instr.buildSlice 106 1 #[(0, .agg M.toArray)]).run Tryz.prog w = .ok (.slice (some ⟨w.heap.size, 0, none⟩) 1 1) (w.alloc (.cells M.toArray 115)) := by
  obtain ⟨f0, f1, h1, h2, h3⟩ := under81
  have hs : (sizeOf 115).run Tryz.prog w = .ok 81 w := by
    cases hq : Tryz.prog.info? 115 with
    | none => rw [hq] at h2; simp at h2
    | some i => rw [hq] at h2; simp at h2; simp [sizeOf, typeInfo, hq, h2.2.1]
  have hz : (mtC (List.replicate 80 false) (.slice none 0 0)).length = 81 := mtC_len (by simp) _
  have hzv := zero81 w
  generalize mtC (List.replicate 80 false) (.slice none 0 0) = Z at hz hzv
  have hf : Instr.fill (fun i => some (i * 81, 81)) ((Array.range (1 * 81)).map ((Value.agg Z.toArray).cells[· % (Value.agg Z.toArray).cells.size]!)) [(0, .agg M.toArray)] = some M.toArray := by
    have hsz : ((Array.range (1 * 81)).map ((Value.agg Z.toArray).cells[· % (Value.agg Z.toArray).cells.size]!)).size = 81 := by simp
    generalize ((Array.range (1 * 81)).map ((Value.agg Z.toArray).cells[· % (Value.agg Z.toArray).cells.size]!)) = Y at hsz
    have hs1 : (Value.agg M.toArray).cells = M.toArray := rfl
    rw [Instr.fill, hs1]
    simp only [List.size_toArray, hM, hsz]
    rw [if_neg (by simp), fold_arr M.toArray Y (0 * 81) (by simp [hM, hsz]), Instr.fill]
    congr 1
    have : Y.toList.drop 81 = [] := by rw [List.drop_of_length_le (by simp [hsz])]
    simp [hM, this]
  unfold Instr.buildSlice
  simp only [Sem.run_bind, run_underlying Tryz.underlying106, Result.andThen_ok, hs]
  simp only [Nat.one_mul, show ¬ (81 > 2 ^ 24) by decide, show ¬ (81 = 0) by decide, if_false, Sem.run_bind, hzv, Result.andThen_ok, Sem.run_pure]
  rw [Nat.one_mul] at hf
  simp only [hf]
  simp [newRow, Sem.run_bind]
end Go.Proofs.YtlemdjgpkmjihaaGreat

namespace Go.Proofs.YtlemdjgpkmjihaaGreat
open Go.RowKit
set_option linter.unusedVariables false
set_option linter.unusedSimpArgs false

theorem infoM : (Tryz.prog.info? 115).map (fun i => (i.zero, i.size, i.bytes)) = some (some (.agg (mtC (List.replicate 80 false) (.slice none 0 0)).toArray), 81, 104) := by
  obtain ⟨f0, f1, -, h2, -⟩ := under81
  exact h2

/-- One state is made a slice. -/
theorem wp_slice81 {o : Oper} {a : Act} {w : World} {K : Act → World → Prop} {Q : Exit → Act → World → Prop} (M : List Value) (hM : M.length = 81) (x : Operand) (ho : o.op = .buildSlice 106 1 #[(0, x)]) (hx : a.eval x = .agg M.toArray)
    (h : K (a.put o.dst (.slice (some ⟨w.heap.size, 0, none⟩) 1 1)) (w.alloc (.cells M.toArray 115))) : o.wp Tryz.prog a w K Q := by
  have hr := slice81 M hM w
  unfold Oper.wp execOp
  simp only [ho, List.map_toArray, List.map_cons, List.map_nil, hx, Sem.run_bind, hr, Result.andThen_ok, Sem.run_pure]
  exact h

/-- A state is put behind a row. -/
theorem wp_app81 {w : World} {o : Oper} {a : Act} {K : Act → World → Prop} {Q : Exit → Act → World → Prop} (s x : Operand)
    (ho : o.op = .call { callee := .builtin .append, args := #[s, x], argTypes := #[106, 106] }) (base : Nat) (v : Value) (n : Nat) (cs : List Value) (hs : a.eval s = v) (hown : w.ownsRow base 115 81 v n cs)
    (b c : Nat) (M : List Value) (hM : M.length = 81) (h1 : ∀ u ∈ M, u.oneCell' = true) (hx : a.eval x = .slice (some ⟨b, 0, none⟩) 1 c) (hc : ∀ f u, M[f]? = some u → w.cell? ⟨b, f, none⟩ = some u) (hn : n ≤ 1000000) (hbase : base ≤ w.heap.size)
    (h : ∀ v' w', w'.ownsRow base 115 81 v' (n + 1) (cs ++ M) → w.grownBy w' v.ownBlock → K (a.put o.dst v') w') : o.wp Tryz.prog a w K Q := by
  obtain ⟨i0, hi, hz0, hz1, hz2⟩ := info_parts infoM
  have hz : (mtC (List.replicate 80 false) (.slice none 0 0)).length = 81 := mtC_len (by simp) _
  generalize mtC (List.replicate 80 false) (.slice none 0 0) = Z at hz hz0
  refine wp_append_own w s x 106 ho base 115 i0 _ 81 104 Tryz.underlying106 hi hz0 hz1 hz2 (by simp [Value.cells, hz]) (by decide) v n cs hs hown ⟨b, 0, none⟩ 1 c M hx (by rw [hM]) (fun j u hu => by rw [Addr.add_lit, Nat.zero_add]; exact hc j u hu) h1 (by unfold maxLen; omega) (by omega) hbase ?_
  intro v' w' h1 h2 _
  exact h v' w' h1 h2

abbrev B80 := {S : List Bool // S.length = 80}
/-- A state at work, as read and as it stands. -/
abbrev Mt := B80 × List L2
abbrev Mu := B80 × (Value × Option Nat)
def muE (u : Mu) : List Value := mtC u.1.1 u.2.1
theorem muE_len (u : Mu) : (muE u).length = 81 := mtC_len u.1.2 _
def muB (u : Mu) : List Nat := u.2.2.toList
theorem muB_mem (u : Mu) (g : Nat) : g ∈ muB u ↔ u.2.2 = some g := by simp [muB, Option.mem_toList]

/-- Its arcs are a clipped slice of what was there ahead of the call, or a row of its own. -/
def MtEl (W0 : World) (w : World) (lo hi : Nat) (u : Mu) (x : Mt) : Prop :=
  u.1 = x.1 ∧ ((u.2.2 = none ∧ ∃ a, u.2.1 = .slice a x.2.length x.2.length ∧ x.2.length ≤ maxLen ∧ RdR lineE 2 W0 a x.2.length x.2) ∨ SubS false lineE 2 99 w lo hi u.2 x.2)

theorem am_ne : (99 : TypeId) ≠ 115 := by decide

theorem mtOk (W0 : World) : ElOk (MtEl W0) muB 115 where
  kept := fun h hk => ⟨h.1, h.2.imp id (fun h => SubV.kept h (fun g hg => hk g ((muB_mem _ _).2 hg)))⟩
  move := fun h hk => ⟨h.1, h.2.imp id (fun h => SubV.move h (fun g hg => hk g ((muB_mem _ _).2 hg)))⟩
  inn := fun h g hg => by
    rw [muB_mem] at hg
    rcases h.2 with ⟨h0, _⟩ | h
    · rw [h0] at hg; cases hg
    · exact SubV.inn h g hg
  apart := fun h g hg => by
    rw [muB_mem] at hg
    rcases h.2 with ⟨h0, _⟩ | h
    · rw [h0] at hg; cases hg
    · exact SubV.apart am_ne h g hg

/-- States at work that the call owns. -/
def RowM (W0 w : World) (lo hi : Nat) (v : Value) (n : Nat) (ms : List Mt) : Prop := RowN (MtEl W0) muB muE 81 115 w lo hi v n ms

/-- What is written elsewhere leaves them. -/
theorem RowM.other {W0 w w' : World} {lo hi n B : Nat} {v : Value} {ms : List Mt} (h : RowM W0 w lo hi v n ms) (h1 : ∀ cs q, w.heap[B]? ≠ some (.cells cs 115 q)) (h2 : ∀ cs q, w.heap[B]? ≠ some (.cells cs 99 q)) (hg : w.grownBy w' (some B)) : RowM W0 w' lo hi v n ms := by
  obtain ⟨us, k1, k2, k3, k4⟩ := h
  refine ⟨us, ⟨⟨k1.1.1, World.ownsRow.kept k1.1.2 hg ?_⟩, k1.2⟩, k2, fun j u x hu hx => (mtOk W0).grown (k3 j u x hu hx) hg (fun g hgm e => ?_), k4⟩
  · rcases k1.1.2.2 with ⟨rfl, _⟩ | ⟨g, cap, cur, rfl, _, hh, _⟩
    · exact .inl rfl
    · refine .inr (fun e => ?_)
      simp [Value.ownBlock] at e
      subst e
      exact h1 _ _ hh
  · cases e
    rw [muB_mem] at hgm
    rcases (k3 j u x hu hx).2 with ⟨h0, _⟩ | hs
    · rw [h0] at hgm; cases hgm
    · rcases hs with ⟨h0, _⟩ | ⟨g', cap, e', _, ho⟩
      · rw [h0] at hgm; cases hgm
      · rw [e'] at hgm
        simp at hgm
        subst hgm
        rcases ho.2 with h0 | ⟨g2, cap2, cur, hv, _, hcur, _⟩
        · simp at h0
        · simp at hv
          rw [← hv.1] at hcur
          exact h2 _ _ hcur

/-- The map's entries. -/
def entsFrom (k : Nat) : List Mt → List Es
  | [] => []
  | m :: ms => ⟨m.1.1, (k : Int)⟩ :: entsFrom (k + 1) ms
theorem entsFrom_snoc (ms : List Mt) (m : Mt) : ∀ k, entsFrom k (ms ++ [m]) = entsFrom k ms ++ [⟨m.1.1, ((k + ms.length : Nat) : Int)⟩] := by
  induction ms with
  | nil => intro k; rfl
  | cons x ms ih =>
    intro k
    simp only [List.cons_append, entsFrom, ih, List.length_cons]
    rw [show k + 1 + ms.length = k + (ms.length + 1) by omega]
theorem entsFrom_st (ms : List Mt) : ∀ k, (entsFrom k ms).map (·.st) = ms.map (·.1.1) := by
  induction ms with
  | nil => intro k; rfl
  | cons x ms ih => intro k; simp [entsFrom, ih]
theorem entsFrom_at (ms : List Mt) : ∀ (k j : Nat) (m : Mt), ms[j]? = some m → (⟨m.1.1, ((k + j : Nat) : Int)⟩ : Es) ∈ entsFrom k ms := by
  induction ms with
  | nil => intro k j m h; simp at h
  | cons x ms ih =>
    intro k j m h
    cases j with
    | zero => simp at h; subst h; simp [entsFrom]
    | succ j =>
      have := ih (k + 1) j m (by simpa using h)
      rw [show k + 1 + j = k + (j + 1) by omega] at this
      exact List.mem_cons_of_mem _ this

/-- The box B holds a memory: the states are ms; the box q bears the program. -/
structure Mem (W0 w : World) (B b q : Nat) (z : Int) (pv : Value) (v : Value) (ms : List Mt) (E : List Es) : Prop where
  blk : Blk w B #[.int .i64 z, v, .map (some b), stepV q] 108
  rows : RowM W0 w W0.heap.size w.heap.size v ms.length ms
  map : OwnP w b E
  step : Blk w q #[pv] 34
  hB : W0.heap.size ≤ B
  hq : W0.heap.size ≤ q
  hb : W0.heap.size ≤ b
  below : Below W0.heap.size W0 w

section
variable {W0 w w' : World} {B b q : Nat} {z : Int} {pv v : Value} {ms : List Mt} {E : List Es}

theorem RowM.top {lo hi n : Nat} (h : RowM W0 w lo hi v n ms) : RowM W0 w lo w.heap.size v n ms := by
  obtain ⟨us, k1, k2, k3, k4⟩ := h
  refine ⟨us, ⟨k1.1, fun j hj => (k1.1.lt j hj).2⟩, k2, fun j u x hu hx => (mtOk W0).move (k3 j u x hu hx) (fun g hg => ?_), k4⟩
  have := (mtOk W0).inn (k3 j u x hu hx) g hg
  omega
theorem RowM.later {lo hi n : Nat} (h : RowM W0 w lo hi v n ms) (hb : Below w.heap.size w w') : RowM W0 w' lo w'.heap.size v n ms := RowM.top (RowN.below (mtOk W0) h hb)

theorem Mem.later (h : Mem W0 w B b q z pv v ms E) (hb : Below w.heap.size w w') : Mem W0 w' B b q z pv v ms E :=
  ⟨(hb.block B h.blk.lt).trans h.blk, h.rows.later hb, h.map.below hb, (hb.block q h.step.lt).trans h.step, h.hB, h.hq, h.hb, h.below.trans (hb.mono h.below.size)⟩

theorem blk_no {B' : Nat} {cs : Array Value} {t t' : TypeId} (h : Blk w B' cs t) (hne : t ≠ t') : ∀ cs q, w.heap[B']? ≠ some (.cells cs t' q) := by
  intro cs' q' e
  rw [show w.heap[B']? = _ from h] at e
  simp at e
  exact hne e.2.1
theorem OwnP.no {B' : Nat} {E : List Es} {t' : TypeId} (h : OwnP w B' E) : ∀ cs q, w.heap[B']? ≠ some (.cells cs t' q) := by
  intro cs' q' e
  obtain ⟨es, clock, k1, _⟩ := h
  rw [k1] at e
  simp at e
theorem OwnP.ne_blk {B' B2 : Nat} {E : List Es} {cs : Array Value} {t : TypeId} (h : OwnP w B' E) (h2 : Blk w B2 cs t) : B' ≠ B2 := by
  intro e
  subst e
  exact OwnP.no h _ _ h2

theorem ownsRow_one {base base' : Nat} {e : TypeId} {size n : Nat} {v : Value} {xs ys : List Value} (h : w.ownsRow base e size v n xs) (k : w.ownsRow base' e size v n ys) : xs = ys := by
  rcases h.2 with ⟨rfl, rfl⟩ | ⟨g, cap, cur, rfl, _, h1, _, _, _, h2⟩
  · have a1 := h.1
    have a2 := k.1
    simp at a1 a2
    rw [a1, a2]
  · rcases k.2 with ⟨e1, _⟩ | ⟨g', cap', cur', e1, _, k1, _, _, _, k2⟩
    · simp at e1
    · simp at e1
      rw [e1.1, k1] at h1
      simp at h1
      rw [← h2, ← k2, h1]

/-- A state is put behind the states, and the box is told. -/
theorem Mem.append (h : Mem W0 w B b q z pv v ms E) : ∃ cs, w.ownsRow W0.heap.size 115 81 v ms.length cs ∧
    ∀ (u : Mu) (x : Mt) (w4 : World) (v' : Value), u.2.2 = none → MtEl W0 w W0.heap.size w.heap.size u x → w4.ownsRow W0.heap.size 115 81 v' (ms.length + 1) (cs ++ muE u) → w.grownBy w4 v.ownBlock →
      w4.cell? ⟨B, 1, none⟩ = some v ∧ w4.frozen? ⟨B, 1, none⟩ = false ∧ w4.heap.size = (w4.setCell ⟨B, 1, none⟩ v').heap.size ∧ Mem W0 (w4.setCell ⟨B, 1, none⟩ v') B b q z pv v' (ms ++ [x]) E ∧ ∀ k cs' t, Blk w k cs' t → t ≠ 115 → k ≠ B → Blk (w4.setCell ⟨B, 1, none⟩ v') k cs' t := by
  obtain ⟨us, k1, k2, k3, k4⟩ := h.rows
  refine ⟨us.flatMap muE, k1.1.2, fun u x w4 v' hu hel ho hg => ?_⟩
  have mB : (108 : TypeId) ≠ 115 := by decide
  have mA : (108 : TypeId) ≠ 99 := by decide
  have iB : (34 : TypeId) ≠ 115 := by decide
  have nB := h.blk.not_row mB k1.1.2
  have nq := h.step.not_row iB k1.1.2
  have nb : some b ≠ v.ownBlock := by
    intro e
    rcases k1.1.2.2 with ⟨e0, _⟩ | ⟨g, cap, cur, e0, _, hh, _⟩
    · rw [e0] at e; simp [Value.ownBlock] at e
    · rw [e0] at e
      simp [Value.ownBlock] at e
      subst e
      exact OwnP.no h.map _ _ hh
  have b4 := h.blk.kept hg nB
  have q4 := h.step.kept hg nq
  have m4 := h.map.kept hg nb
  have hno : ∀ {u : Mu} {x : Mt}, MtEl W0 w W0.heap.size w.heap.size u x → ∀ c ∈ muB u, v.ownBlock ≠ some c := by
    intro u x hu c hc hv
    rcases k1.1.2.2 with ⟨rfl, _⟩ | ⟨g, cap, cur, rfl, _⟩
    · simp [Value.ownBlock] at hv
    · simp [Value.ownBlock] at hv
      subst hv
      exact RowN.own (mtOk W0) k1 hu hc
  have r4 : RowM W0 w4 W0.heap.size w4.heap.size v' (ms.length + 1) (ms ++ [x]) := by
    refine RowN.snoc (mtOk W0) (hi' := w.heap.size) h.rows hel (fun c hc => by rw [muB_mem, hu] at hc; cases hc) (fun g _ hgm => by rw [muB_mem, hu] at hgm; cases hgm) (fun us' ho' => ?_) hg
    rw [ownsRow_one ho' k1.1.2]
    exact ho
  have hset := set_grown w4 B 1 v'
  have hqB : q ≠ B := by
    intro e
    have h1 := h.blk
    have h2 := h.step
    rw [e] at h2
    unfold Blk at h1 h2
    rw [h1] at h2
    simp at h2
  have r5 := RowM.other r4 (blk_no b4 mB) (blk_no b4 mA) hset
  have hvb : ∀ j, v.ownBlock = some j → W0.heap.size ≤ j := fun j hj => (World.ownsRow.lt k1.1.2 j hj).1
  refine ⟨by have := b4.cell 1; simpa using this, b4.frozen 1, by simp, ⟨?_, ?_, ?_, ?_, h.hB, h.hq, h.hb, ?_⟩, ?_⟩
  · have := b4.set (i := 1) v'
    simpa using this
  · have := r5.top
    simpa using this
  · exact m4.kept hset (fun e => OwnP.ne_blk m4 b4 (by simpa using e))
  · exact q4.other hqB _
  · exact (h.below.grown hg h.below.size hvb).setCell h.hB _
  · intro k cs' t hk ht hkB
    exact (hk.kept hg (hk.not_row ht k1.1.2)).other hkB _

/-- An entry more in the map. -/
theorem Mem.entry (h : Mem W0 w B b q z pv v ms E) {S : List Bool} {i : Int} (hS : S.length = 80) (hn : ∀ e ∈ E, e.st ≠ S) :
    ∃ w', (Instr.mapUpdate 105 (.map (some b)) (kvS S) (hvS i)).run Tryz.prog w = .ok () w' ∧ Mem W0 w' B b q z pv v ms (E ++ [⟨S, i⟩]) ∧ w.grownBy w' (some b) := by
  obtain ⟨w', h1, h2, h3, h4⟩ := h.map.store (turn := i) (setOk hS)
  have hbut : butS E S = E := by
    unfold butS
    exact List.filter_eq_self.2 (fun e he => by simpa using hn e he)
  rw [hbut] at h2
  refine ⟨w', h1, ⟨h.blk.kept h3 (fun e => OwnP.ne_blk h.map h.blk (by simpa using e.symm)), ?_, h2, h.step.kept h3 (fun e => OwnP.ne_blk h.map h.step (by simpa using e.symm)), h.hB, h.hq, h.hb, ?_⟩, h3⟩
  · exact (RowM.other h.rows (OwnP.no h.map) (OwnP.no h.map) h3).top
  · exact h.below.grown h3 h.below.size (fun j hj => by simp at hj; have := h.hb; omega)
end
end Go.Proofs.YtlemdjgpkmjihaaGreat
