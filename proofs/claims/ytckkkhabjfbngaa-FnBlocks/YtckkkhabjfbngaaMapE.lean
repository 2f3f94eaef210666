/-
  The shelf's map, entry by entry: what it holds, and what a look-up, a store, a delete and a step of a range make of it.
-/
import Derived.Test.YtckkkhabjfbngaaTrueM
import Derived.Maps.RangeWalk
import Derived.Maps.OwnSet
import Derived.DeepKeys4
namespace Go.Proofs.Ytckkkhabjfbngaa
open Go.RowKit Go.ChangeMaps Go.MapKept
open Go.Maps (Keyed)
set_option linter.unusedVariables false

/-- An entry: a block's number, when it was asked for, its bytes. -/
structure En where
  num : Int
  turn : Int
  v : Value

def kv (U num : Int) : Value := .agg #[.int .i64 U, .int .i64 num]
def hv (t : Int) (v : Value) : Value := .agg #[.int .i64 t, v]
def enP (U : Int) (e : En) : Value × Value := (kv U e.num, hv e.turn e.v)
def meP (x : MapEntry) : Value × Value := (x.key, x.val)

theorem kv_inj {U a b : Int} (h : kv U a = kv U b) : a = b := by
  simpa [kv] using h

theorem laidB : laidOutB Try.prog = true := by kernel_rfl
theorem rowK : (95 : TypeId) < Try.prog.types.size := of_decide_eq_true (by kernel_rfl)
theorem wideK : (match Try.prog.underlying 95 with | some (.array _ _) | some (.struct _) => true | _ => false) = true := by rw [Try.underlying95]
set_option maxRecDepth 100000 in
theorem lawK : Keyed Try.prog 95 := Keyed.of_law (deep_law_laid laidB (m := 2) (by omega) rowK (by kernel_rfl) wideK)

/-- A key that the map can hold. -/
def KeyOk (U num : Int) : Prop := ∃ kl, keyOf Try.prog 95 (kv U num) = some kl

set_option maxRecDepth 100000 in
theorem keyOk {U num : Int} (h1 : 0 ≤ U) (h2 : U ≤ 64) (h3 : 0 ≤ num) (h4 : num ≤ 100000) : KeyOk U num := by
  have k1 : Try.prog.keyType 95 = true := by kernel_rfl
  have kc : Try.prog.cellsOf 95 = 2 := by kernel_rfl
  have ki : Try.prog.cellsOf 2 = 1 := by kernel_rfl
  have kf : (kv U num).formed Try.prog 95 = true := by simp [kv, Value.formed, Try.underlying95, kc]
  have w1 : (Lit.int .i64 U).wf = true := by simp [Lit.wf, IntKind.min, IntKind.max, IntKind.signed, IntKind.bits]; omega
  have w2 : (Lit.int .i64 num).wf = true := by simp [Lit.wf, IntKind.min, IntKind.max, IntKind.signed, IntKind.bits]; omega
  refine ⟨.string (keyBytes [.int .i64 U, .int .i64 num]), ?_⟩
  unfold keyOf
  rw [Try.underlying95]
  simp only [k1, kf, Bool.and_self, if_true]
  obtain ⟨d, hd⟩ : ∃ d, Try.prog.types.size + 1 = d + 1 + 1 := ⟨Try.prog.types.size - 1, by have h : (95 : Nat) < Try.prog.types.size := rowK; omega⟩
  rw [hd]
  simp [Program.keyLits, kv, Value.cells, Try.underlying95, Try.underlying2, kc, ki, w1, w2]

theorem undM : Try.prog.underlying 119 = some (.map 95 124) := Try.underlying119

theorem zeroH (w : World) : (zeroValue 124).run Try.prog w = .ok (hv 0 (.slice none 0 0)) w := by kernel_rfl

/-- Block b is a map that holds just the entries B. -/
def OwnE (U : Int) (w : World) (b : Nat) (B : List En) : Prop :=
  ∃ es clock, w.heap[b]? = some (.map es clock) ∧ Stamped es clock ∧ (es.toList.map meP).Perm (B.map (enP U)) ∧ ∀ e ∈ B, KeyOk U e.num

section
variable {U : Int} {w w' : World} {b : Nat} {B : List En}

theorem OwnE.lt (h : OwnE U w b B) : b < w.heap.size := by
  obtain ⟨es, clock, hb, _⟩ := h
  exact (Array.getElem?_eq_some_iff.1 hb).1

theorem OwnE.below (h : OwnE U w b B) (hb : Below w.heap.size w w') : OwnE U w' b B := by
  have hlt := h.lt
  obtain ⟨es, clock, k1, k2⟩ := h
  exact ⟨es, clock, (hb.block b hlt).trans k1, k2⟩

theorem OwnE.kept {row : Option Nat} (h : OwnE U w b B) (hg : w.grownBy w' row) (hne : some b ≠ row) : OwnE U w' b B := by
  have hlt := h.lt
  obtain ⟨es, clock, k1, k2⟩ := h
  exact ⟨es, clock, (hg.block b hlt hne).trans k1, k2⟩

theorem OwnE.chg {lo hi : Nat} (h : OwnE U w b B) (hc : Chg lo hi w w') (hr : b < lo ∨ hi ≤ b) : OwnE U w' b B := by
  have hlt := h.lt
  obtain ⟨es, clock, k1, k2⟩ := h
  exact ⟨es, clock, (hc.block b hlt hr).trans k1, k2⟩

theorem ownE_made (U : Int) (w : World) : OwnE U (w.alloc (.map #[] 0)) w.heap.size [] :=
  ⟨#[], 0, heap_alloc_new w _, ⟨by simp, by simp, by simp⟩, by simp, fun e he => by simp at he⟩

/-- What an entry of the array is. -/
theorem OwnE.mem_of {es : Array MapEntry} (hp : (es.toList.map meP).Perm (B.map (enP U))) {x : MapEntry} (hx : x ∈ es.toList) : ∃ e ∈ B, x.key = kv U e.num ∧ x.val = hv e.turn e.v := by
  have : meP x ∈ B.map (enP U) := hp.mem_iff.1 (List.mem_map.2 ⟨x, hx, rfl⟩)
  obtain ⟨e, he, h⟩ := List.mem_map.1 this
  simp only [enP, meP, Prod.mk.injEq] at h
  exact ⟨e, he, h.1.symm, h.2.symm⟩

theorem OwnE.of_mem {es : Array MapEntry} (hp : (es.toList.map meP).Perm (B.map (enP U))) {e : En} (he : e ∈ B) : ∃ x ∈ es.toList, x.key = kv U e.num ∧ x.val = hv e.turn e.v := by
  have : enP U e ∈ es.toList.map meP := hp.mem_iff.2 (List.mem_map.2 ⟨e, he, rfl⟩)
  obtain ⟨x, hx, h⟩ := List.mem_map.1 this
  simp only [enP, meP, Prod.mk.injEq] at h
  exact ⟨x, hx, h.1, h.2⟩

theorem OwnE.nodup (h : OwnE U w b B) : (B.map (·.num)).Nodup := by
  obtain ⟨es, clock, _, hst, hp, _⟩ := h
  have h1 : ((es.toList.map meP).map (·.1)).Nodup := by rw [List.map_map]; exact hst.2.2
  have h2 := (hp.map (·.1)).nodup_iff.1 h1
  rw [List.map_map] at h2
  have e : (B.map ((fun p : Value × Value => p.1) ∘ enP U)) = (B.map (·.num)).map (kv U) := by rw [List.map_map]; rfl
  rw [e] at h2
  rw [List.Nodup, List.pairwise_map] at h2
  exact h2.imp (fun h e => h (by rw [e]))

theorem OwnE.keys {es : Array MapEntry} (hp : (es.toList.map meP).Perm (B.map (enP U))) (hk : ∀ e ∈ B, KeyOk U e.num) : ∀ x ∈ es.toList, ∃ l, keyOf Try.prog 95 x.key = some l := fun x hx => by
  obtain ⟨e, he, h1, _⟩ := OwnE.mem_of hp hx
  rw [h1]
  exact hk e he

/-- A look-up that finds. -/
theorem OwnE.look {e : En} (h : OwnE U w b B) (he : e ∈ B) (c : Bool) :
    (Instr.lookup 119 (.map (some b)) (kv U e.num) c).run Try.prog w = .ok (if c then .tuple #[hv e.turn e.v, .bool true] else hv e.turn e.v) w := by
  obtain ⟨es, clock, hb, hst, hp, hk⟩ := h
  obtain ⟨kl, hkey⟩ := hk e he
  obtain ⟨x, hx, x1, x2⟩ := OwnE.of_mem hp he
  rcases lawK.find w hkey es.toList (OwnE.keys hp hk) with ⟨h1, h2⟩ | ⟨j, e0, h1, h2, h3⟩
  · exact absurd x1 (h2 x hx)
  · have hm0 : e0 ∈ es.toList := List.mem_of_getElem? h2
    have hee : e0 = x := entry_eq_of_key (by have := hst.2.2; rwa [List.Nodup, List.pairwise_map] at this) hm0 hx (by rw [h3, x1])
    subst hee
    simp [Instr.lookup, run_underlying undM, MapKept.run_getObj_map hb, lawK.check w _ hkey, h1, x2, Result.andThen]

/-- A look-up that finds nothing. -/
theorem OwnE.lookNot {num : Int} (h : OwnE U w b B) (hok : KeyOk U num) (hn : ∀ e ∈ B, e.num ≠ num) (c : Bool) :
    (Instr.lookup 119 (.map (some b)) (kv U num) c).run Try.prog w = .ok (if c then .tuple #[hv 0 (.slice none 0 0), .bool false] else hv 0 (.slice none 0 0)) w := by
  obtain ⟨es, clock, hb, hst, hp, hk⟩ := h
  obtain ⟨kl, hkey⟩ := hok
  rcases lawK.find w hkey es.toList (OwnE.keys hp hk) with ⟨h1, h2⟩ | ⟨j, e0, h1, h2, h3⟩
  · simp [Instr.lookup, run_underlying undM, MapKept.run_getObj_map hb, lawK.check w _ hkey, h1, Result.andThen]
    rfl
  · exfalso
    obtain ⟨e, he, q1, _⟩ := OwnE.mem_of hp (List.mem_of_getElem? h2)
    rw [h3] at q1
    exact hn e he (kv_inj q1).symm

theorem setBlock_grown (w : World) (b : Nat) (o : Obj) : w.grownBy (setBlock w b o) (some b) := by
  refine ⟨rfl, rfl, rfl, by simp [setBlock], fun i hi hr => ?_⟩
  unfold setBlock
  rw [Array.getElem?_setIfInBounds_ne (fun e => hr (by rw [e]))]

theorem setBlock_at {w : World} {b : Nat} {o o' : Obj} (h : w.heap[b]? = some o') : (setBlock w b o).heap[b]? = some o := by
  have hlt := (Array.getElem?_eq_some_iff.1 h).1
  unfold setBlock
  simp [hlt]

/-- All but a number. -/
def butN (B : List En) (num : Int) : List En := B.filter fun e => decide (e.num ≠ num)

theorem butN_mem {B : List En} {num : Int} {e : En} : e ∈ butN B num ↔ e ∈ B ∧ e.num ≠ num := by
  simp [butN]

open Classical in
/-- Whoever bears another key: in the array as in the list. -/
theorem OwnE.others {es : Array MapEntry} (hp : (es.toList.map meP).Perm (B.map (enP U))) (num : Int) :
    ((es.toList.filter fun x => decide (x.key ≠ kv U num)).map meP).Perm ((butN B num).map (enP U)) := by
  have h1 := hp.filter (fun p : Value × Value => decide (p.1 ≠ kv U num))
  rw [List.filter_map, List.filter_map] at h1
  have e1 : (fun p : Value × Value => decide (p.1 ≠ kv U num)) ∘ meP = fun x : MapEntry => decide (x.key ≠ kv U num) := rfl
  have e2 : ∀ e : En, ((fun p : Value × Value => decide (p.1 ≠ kv U num)) ∘ enP U) e = decide (e.num ≠ num) := fun e => by
    have : (kv U e.num = kv U num) ↔ e.num = num := ⟨kv_inj, fun h => by rw [h]⟩
    simp [enP, this]
  rw [e1] at h1
  have e3 : B.filter ((fun p : Value × Value => decide (p.1 ≠ kv U num)) ∘ enP U) = butN B num := by
    unfold butN
    exact List.filter_congr (fun e _ => by rw [e2])
  rw [e3] at h1
  exact h1

theorem keys_apart {es : Array MapEntry} {clock : Nat} (hst : Stamped es clock) : es.toList.Pairwise (fun x y => x.key ≠ y.key) := by
  have := hst.2.2
  rwa [List.Nodup, List.pairwise_map] at this

open Classical in
theorem filter_split {l1 l2 : List MapEntry} {e0 : MapEntry} (h : (l1 ++ e0 :: l2).Pairwise (fun x y => x.key ≠ y.key)) : (l1 ++ e0 :: l2).filter (fun x => decide (x.key ≠ e0.key)) = l1 ++ l2 := by
  rw [List.pairwise_append] at h
  obtain ⟨h1, h2, h3⟩ := h
  rw [List.pairwise_cons] at h2
  rw [List.filter_append, List.filter_cons]
  simp only [ne_eq, not_true_eq_false, decide_false, Bool.false_eq_true, if_false]
  congr 1
  · exact List.filter_eq_self.2 (fun x hx => by simpa using h3 x hx e0 List.mem_cons_self)
  · exact List.filter_eq_self.2 (fun x hx => by simpa using fun e => h2.1 x hx e.symm)

open Classical in
theorem filter_none {l : List MapEntry} {key : Value} (h : ∀ x ∈ l, x.key ≠ key) : l.filter (fun x => decide (x.key ≠ key)) = l :=
  List.filter_eq_self.2 (fun x hx => by simpa using h x hx)

/-- A store: the entry is the last one. -/
theorem OwnE.store {num turn : Int} {v : Value} (h : OwnE U w b B) (hok : KeyOk U num) :
    ∃ w', (Instr.mapUpdate 119 (.map (some b)) (kv U num) (hv turn v)).run Try.prog w = .ok () w' ∧ OwnE U w' b (butN B num ++ [⟨num, turn, v⟩]) ∧ w.grownBy w' (some b) ∧ w'.heap.size = w.heap.size := by
  obtain ⟨es, clock, hb, hst, hp, hk⟩ := h
  obtain ⟨kl, hkey⟩ := hok
  have hk' : ∀ e ∈ butN B num ++ [⟨num, turn, v⟩], KeyOk U e.num := fun e he => by
    rcases List.mem_append.1 he with he | he
    · exact hk e (butN_mem.1 he).1
    · simp at he; rw [he]; exact ⟨kl, hkey⟩
  have ho := OwnE.others hp num
  rcases lawK.find w hkey es.toList (OwnE.keys hp hk) with ⟨h1, h2⟩ | ⟨j, e0, h1, h2, h3⟩
  · refine ⟨setBlock w b (.map (es.push ⟨kv U num, hv turn v, clock⟩) (clock + 1)), ?_, ⟨_, _, setBlock_at hb, stamped_push hst h2, ?_, hk'⟩, setBlock_grown _ _ _, by simp [setBlock]⟩
    · simp [Instr.mapUpdate, run_underlying undM, MapKept.run_getObj_map hb, lawK.check w false hkey, h1, MapKept.run_setObj_map _ hb, Result.andThen, setBlock]
    · rw [filter_none h2] at ho
      rw [Array.toList_push, List.map_append, List.map_append]
      exact ho.append_right _
  · have hj : es[j]? = some e0 := by simpa using h2
    have hjl : j < es.toList.length := (List.getElem?_eq_some_iff.1 h2).1
    have hkeyf : ∀ e', es[j]? = some e' → ({ e' with key := kv U num, val := hv turn v } : MapEntry).key = e'.key := fun e' he' => by rw [hj] at he'; cases he'; exact h3.symm
    have hlist : (es.modify j (fun e' => { e' with key := kv U num, val := hv turn v })).toList = es.toList.set j { e0 with key := kv U num, val := hv turn v } := by rw [Array.toList_modify, modify_eq_set _ _ _ _ h2]
    refine ⟨setBlock w b (.map (es.modify j (fun e' => { e' with key := kv U num, val := hv turn v })) clock), ?_, ⟨_, _, setBlock_at hb, stamped_modify hst _ _ (fun _ _ => rfl) (fun e' _ he' => hkeyf e' he'), ?_, hk'⟩, setBlock_grown _ _ _, by simp [setBlock]⟩
    · simp [Instr.mapUpdate, run_underlying undM, MapKept.run_getObj_map hb, lawK.check w false hkey, h1, hj, h3, lawK.stays w hkey, MapKept.run_setObj_map _ hb, Result.andThen, setBlock]
    · rw [hlist]
      obtain ⟨l1, l2, e1, e2⟩ : ∃ l1 l2, es.toList = l1 ++ e0 :: l2 ∧ l1.length = j := by
        refine ⟨es.toList.take j, es.toList.drop (j + 1), ?_, by rw [List.length_take]; omega⟩
        have hge : es.toList[j] = e0 := (List.getElem?_eq_some_iff.1 h2).2
        rw [← hge, ← List.drop_eq_getElem_cons hjl, List.take_append_drop]
      have hap := keys_apart hst
      rw [e1] at hap ho
      have hf := filter_split hap
      rw [h3] at hf
      rw [hf] at ho
      rw [e1, set_mid _ _ e2, List.map_append, List.map_append, List.map_append]
      rw [List.map_append] at ho
      have p1 : (l1.map meP ++ [meP { e0 with key := kv U num, val := hv turn v }] ++ l2.map meP).Perm ((l1.map meP ++ l2.map meP) ++ [meP { e0 with key := kv U num, val := hv turn v }]) := by
        rw [List.append_assoc, List.append_assoc]
        exact (List.perm_append_comm).append_left _
      exact p1.trans (ho.append_right _)

/-- A delete. -/
theorem OwnE.drop {num : Int} (h : OwnE U w b B) (hok : KeyOk U num) (ty : TypeId) :
    ∃ w', (Builtin.delete_ #[119, 95] ty #[.map (some b), kv U num]).run Try.prog w = .ok (.tuple #[]) w' ∧ OwnE U w' b (butN B num) ∧ w.grownBy w' (some b) ∧ w'.heap.size = w.heap.size := by
  obtain ⟨es, clock, hb, hst, hp, hk⟩ := h
  obtain ⟨kl, hkey⟩ := hok
  have hk' : ∀ e ∈ butN B num, KeyOk U e.num := fun e he => hk e (butN_mem.1 he).1
  have ho := OwnE.others hp num
  rcases lawK.find w hkey es.toList (OwnE.keys hp hk) with ⟨h1, h2⟩ | ⟨j, e0, h1, h2, h3⟩
  · refine ⟨setBlock w b (.map es clock), ?_, ⟨_, _, setBlock_at hb, hst, ?_, hk'⟩, setBlock_grown _ _ _, by simp [setBlock]⟩
    · simp [Builtin.delete_, run_underlying undM, MapKept.run_getObj_map hb, lawK.check w _ hkey, h1, MapKept.run_setObj_map _ hb, Result.andThen, setBlock]
    · rwa [filter_none h2] at ho
  · have hjl : j < es.toList.length := (List.getElem?_eq_some_iff.1 h2).1
    have hjs : j < es.size := by simpa using hjl
    have hsub : (es.eraseIdxIfInBounds j).toList = es.toList.eraseIdx j := by
      unfold Array.eraseIdxIfInBounds
      rw [dif_pos hjs]
      simp
    refine ⟨setBlock w b (.map (es.eraseIdxIfInBounds j) clock), ?_, ⟨_, _, setBlock_at hb, stamped_erase hst j, ?_, hk'⟩, setBlock_grown _ _ _, by simp [setBlock]⟩
    · simp [Builtin.delete_, run_underlying undM, MapKept.run_getObj_map hb, lawK.check w _ hkey, h1, MapKept.run_setObj_map _ hb, Result.andThen, setBlock]
    · obtain ⟨l1, l2, e1, e2⟩ : ∃ l1 l2, es.toList = l1 ++ e0 :: l2 ∧ l1.length = j := by
        refine ⟨es.toList.take j, es.toList.drop (j + 1), ?_, by rw [List.length_take]; omega⟩
        have hge : es.toList[j] = e0 := (List.getElem?_eq_some_iff.1 h2).2
        rw [← hge, ← List.drop_eq_getElem_cons hjl, List.take_append_drop]
      have hap := keys_apart hst
      rw [hsub]
      rw [e1] at hap ho ⊢
      have hf := filter_split hap
      rw [h3] at hf
      rw [hf] at ho
      have he : (l1 ++ e0 :: l2).eraseIdx j = l1 ++ l2 := by
        rw [← e2, List.eraseIdx_append_of_length_le (Nat.le_refl _)]
        simp
      rw [he]
      exact ho

theorem OwnE.len (h : OwnE U w b B) (ty : TypeId) : (Builtin.len_ #[119] ty #[.map (some b)]).run Try.prog w = .ok (.int .i64 B.length) w := by
  obtain ⟨es, clock, hb, hst, hp, hk⟩ := h
  have hl := hp.length_eq
  simp at hl
  simp [Builtin.len_, run_underlying undM, MapKept.run_getObj_map hb, Result.andThen, hl, goInt]
end
end Go.Proofs.Ytckkkhabjfbngaa
