/-
  A range over the shelf's map: its steps, and a delete in the midst.
-/
import Derived.Test.YtckkkhabjfbngaaMapE
namespace Go.Proofs.Ytckkkhabjfbngaa
open Go.RowKit Go.ChangeMaps Go.MapKept
open Go.Maps (Keyed)
set_option linter.unusedVariables false

/-- A range over the map, under way in block r: 'left' are still to come. -/
def OwnG (U : Int) (w : World) (b r : Nat) (B left : List En) : Prop :=
  ∃ es clock since seen c0, w.heap[b]? = some (.map es clock) ∧ Stamped es clock ∧ (es.toList.map meP).Perm (B.map (enP U)) ∧ (∀ e ∈ B, KeyOk U e.num) ∧
    w.heap[r]? = some (.mapIter (some b) since seen c0) ∧ (∀ x ∈ es.toList, x.born < since) ∧ since ≤ c0 ∧ since ≤ clock ∧ ((leftOf es seen).toList.map meP).Perm (left.map (enP U))

section
variable {U : Int} {w w' : World} {b r : Nat} {B left : List En}

theorem OwnG.owns (h : OwnG U w b r B left) : OwnE U w b B := by
  obtain ⟨es, clock, since, seen, c0, h1, h2, h3, h4, _⟩ := h
  exact ⟨es, clock, h1, h2, h3, h4⟩

theorem OwnG.ne (h : OwnG U w b r B left) : r ≠ b := by
  obtain ⟨es, clock, since, seen, c0, h1, h2, h3, h4, h5, _⟩ := h
  intro e
  subst e
  rw [h1] at h5
  cases h5

theorem OwnG.lt (h : OwnG U w b r B left) : r < w.heap.size := by
  obtain ⟨es, clock, since, seen, c0, h1, h2, h3, h4, h5, _⟩ := h
  exact (Array.getElem?_eq_some_iff.1 h5).1

theorem OwnG.kept {row : Option Nat} (h : OwnG U w b r B left) (hg : w.grownBy w' row) (hb : some b ≠ row) (hr : some r ≠ row) : OwnG U w' b r B left := by
  have l1 := h.owns.lt
  have l2 := h.lt
  obtain ⟨es, clock, since, seen, c0, h1, h2, h3, h4, h5, h6⟩ := h
  exact ⟨es, clock, since, seen, c0, (hg.block b l1 hb).trans h1, h2, h3, h4, (hg.block r l2 hr).trans h5, h6⟩

theorem OwnG.below (h : OwnG U w b r B left) (hb : Below w.heap.size w w') : OwnG U w' b r B left := h.kept (grownBy_of_below hb) (by simp) (by simp)

/-- The range begins. -/
theorem OwnE.range (h : OwnE U w b B) :
    ∃ w', (Instr.range 119 (.map (some b))).run Try.prog w = .ok (.pointer (some ⟨w.heap.size, 0, none⟩)) w' ∧ OwnG U w' b w.heap.size B B ∧ Below w.heap.size w w' ∧ w'.heap.size = w.heap.size + 1 := by
  have hlt := h.lt
  obtain ⟨es, clock, hb, hst, hp, hk⟩ := h
  refine ⟨_, run_range_map w _ _ _ b es clock undM hb, ⟨es, clock, clock, #[], clock, ((MapKept.heap_alloc w _).2 b hlt).trans hb, hst, hp, hk, (MapKept.heap_alloc w _).1, hst.1, Nat.le_refl _, Nat.le_refl _, ?_⟩, (Below.refl _ _).alloc (Nat.le_refl _) _, by simp⟩
  have : leftOf es #[] = es := by simp [leftOf]
  rw [this]
  exact hp

theorem left_push {es : Array MapEntry} {seen : Array Nat} {l1 l2 : List MapEntry} {e0 : MapEntry} (hb : (es.toList.map (·.born)).Nodup) (h : (leftOf es seen).toList = l1 ++ e0 :: l2) : (leftOf es (seen.push e0.born)).toList = l1 ++ l2 := by
  have e1 : (leftOf es (seen.push e0.born)).toList = (leftOf es seen).toList.filter (fun x => decide (x.born ≠ e0.born)) := by
    unfold leftOf
    rw [Array.toList_filter, Array.toList_filter, List.filter_filter]
    refine List.filter_congr (fun x _ => ?_)
    rw [contains_push]
    by_cases e : x.born = e0.born <;> simp [e]
  have hsub : (leftOf es seen).toList.Sublist es.toList := by
    unfold leftOf
    rw [Array.toList_filter]
    exact List.filter_sublist
  have hn : ((leftOf es seen).toList.map (·.born)).Nodup := (hsub.map _).nodup hb
  rw [h] at hn
  rw [e1, h]
  rw [List.Nodup, List.pairwise_map, List.pairwise_append] at hn
  obtain ⟨h1, h2, h3⟩ := hn
  rw [List.pairwise_cons] at h2
  rw [List.filter_append, List.filter_cons]
  simp only [ne_eq, not_true_eq_false, decide_false, Bool.false_eq_true, if_false]
  congr 1
  · exact List.filter_eq_self.2 (fun x hx => by simpa using h3 x hx e0 List.mem_cons_self)
  · exact List.filter_eq_self.2 (fun x hx => by simpa using fun e => h2.1 x hx e.symm)

/-- The step. -/
theorem OwnG.next (h : OwnG U w b r B left) (ty : TypeId) :
    (left = [] ∧ (Instr.next (.pointer (some ⟨r, 0, none⟩)) false ty).run Try.prog w = .ok (.tuple #[.bool false]) w) ∨
    ∃ e rest w', left.Perm (e :: rest) ∧ e ∈ B ∧ (Instr.next (.pointer (some ⟨r, 0, none⟩)) false ty).run Try.prog w = .ok (.tuple #[.bool true, kv U e.num, hv e.turn e.v]) w' ∧
      OwnG U w' b r B rest ∧ w.grownBy w' (some r) ∧ w'.heap.size = w.heap.size ∧ (Instr.entry (.pointer (some ⟨r, 0, none⟩))).run Try.prog w' = .ok (.tuple #[kv U e.num, hv e.turn e.v]) w' := by
  have hne := h.ne
  obtain ⟨es, clock, since, seen, c0, hb, hst, hp, hk, hr, hold, hsc, hsk, hleft⟩ := h
  rcases run_next_at (P := Try.prog) w ty r b since c0 seen es clock hr hb hold hsc with ⟨h0, hrun⟩ | ⟨x, hx, w1, hal, hrun⟩
  · left
    refine ⟨?_, hrun⟩
    have := hleft.length_eq
    simp only [List.length_map, Array.length_toList] at this
    exact List.eq_nil_of_length_eq_zero (by omega)
  · right
    obtain ⟨hem, hes⟩ := mem_left hx
    have hmx : meP x ∈ left.map (enP U) := hleft.mem_iff.1 (List.mem_map.2 ⟨x, hx, rfl⟩)
    obtain ⟨e, he, hq⟩ := List.mem_map.1 hmx
    simp only [enP, meP, Prod.mk.injEq] at hq
    obtain ⟨q1, q2⟩ := hq
    obtain ⟨e', he', k1, k2⟩ := OwnE.mem_of hp hem
    have hee : e = e' := by
      have a1 := kv_inj (q1.trans k1)
      have a2 : hv e.turn e.v = hv e'.turn e'.v := q2.trans k2
      simp only [hv, Value.agg.injEq, Array.mk.injEq, List.cons.injEq, Value.int.injEq, true_and, and_true] at a2
      cases e
      cases e'
      simp only at a1 a2
      simp [a1, a2]
    subst hee
    obtain ⟨l1, l2, hl⟩ := List.append_of_mem hx
    have hpush := left_push ((stamped_iff es clock).1 hst).2.1 hl
    obtain ⟨p1, p2, hlr⟩ := List.append_of_mem he
    have hrest : ((l1 ++ l2).map meP).Perm ((p1 ++ p2).map (enP U)) := by
      rw [hl, hlr, List.map_append, List.map_cons, List.map_append, List.map_cons] at hleft
      have hx' : meP x = enP U e := by simp [meP, enP, q1, q2]
      rw [hx'] at hleft
      have a1 := List.perm_middle.symm.trans (hleft.trans List.perm_middle)
      rw [List.map_append, List.map_append]
      exact a1.cons_inv
    have hr1 : w1.heap[r]? = some (.mapIter (some b) since seen c0) := by rcases hal with rfl | rfl <;> exact hr
    have hb1 : w1.heap[b]? = some (.map es clock) := by rcases hal with rfl | rfl <;> exact hb
    have hset := heap_set (o' := .mapIter (some b) since (seen.push x.born) clock) hr1
    have hb' : (setBlock w1 r (.mapIter (some b) since (seen.push x.born) clock)).heap[b]? = some (.map es clock) := (hset.2 b (fun e1 => hne e1.symm)).trans hb1
    rw [k1, k2] at hrun
    refine ⟨e, p1 ++ p2, _, by rw [hlr]; exact List.perm_middle, he', hrun, ⟨es, clock, since, seen.push x.born, clock, hb', hst, hp, hk, hset.1, hold, hsk, hsk, by rw [hpush]; exact hrest⟩, ?_, ?_, ?_⟩
    · rcases hal with rfl | rfl <;> exact ⟨rfl, rfl, rfl, by simp [setBlock], fun i _ hi => hset.2 i (fun e1 => hi (by rw [e1]))⟩
    · rcases hal with rfl | rfl <;> simp [setBlock]
    · have := run_entry_at (P := Try.prog) _ r b since seen es clock x hset.1 hb' hem ((stamped_iff es clock).1 hst).2.1
      rw [k1, k2] at this
      exact this

open Classical in
/-- A delete in the midst. -/
theorem OwnG.drop {num : Int} (h : OwnG U w b r B left) (hok : KeyOk U num) (ty : TypeId) :
    ∃ w', (Builtin.delete_ #[119, 95] ty #[.map (some b), kv U num]).run Try.prog w = .ok (.tuple #[]) w' ∧ OwnG U w' b r (butN B num) (butN left num) ∧ w.grownBy w' (some b) ∧ w'.heap.size = w.heap.size := by
  have hne := h.ne
  have hrl := h.lt
  obtain ⟨es, clock, since, seen, c0, hb, hst, hp, hk, hr, hold, hsc, hsk, hleft⟩ := h
  obtain ⟨kl, hkey⟩ := hok
  have hk' : ∀ e ∈ butN B num, KeyOk U e.num := fun e he => hk e (butN_mem.1 he).1
  have ho := OwnE.others hp num
  have ho2 := OwnE.others hleft num
  have hrr : ∀ o, (setBlock w b o).heap[r]? = some (.mapIter (some b) since seen c0) := fun o => ((setBlock_grown w b o).block r hrl (fun e => hne (by simpa using e))).trans hr
  rcases lawK.find w hkey es.toList (OwnE.keys hp hk) with ⟨h1, h2⟩ | ⟨j, e0, h1, h2, h3⟩
  · have h2' : ∀ x ∈ (leftOf es seen).toList, x.key ≠ kv U num := fun x hx => h2 x (mem_left hx).1
    refine ⟨setBlock w b (.map es clock), ?_, ⟨es, clock, since, seen, c0, setBlock_at hb, hst, ?_, hk', hrr _, hold, hsc, hsk, ?_⟩, setBlock_grown _ _ _, by simp [setBlock]⟩
    · simp [Builtin.delete_, run_underlying undM, MapKept.run_getObj_map hb, lawK.check w _ hkey, h1, MapKept.run_setObj_map _ hb, Result.andThen, setBlock]
    · rwa [filter_none h2] at ho
    · rwa [filter_none h2'] at ho2
  · have hjl : j < es.toList.length := (List.getElem?_eq_some_iff.1 h2).1
    have hjs : j < es.size := by simpa using hjl
    have hsub : (es.eraseIdxIfInBounds j).toList = es.toList.eraseIdx j := by
      unfold Array.eraseIdxIfInBounds
      rw [dif_pos hjs]
      simp
    obtain ⟨l1, l2, e1, e2⟩ : ∃ l1 l2, es.toList = l1 ++ e0 :: l2 ∧ l1.length = j := by
      refine ⟨es.toList.take j, es.toList.drop (j + 1), ?_, by rw [List.length_take]; omega⟩
      have hge : es.toList[j] = e0 := (List.getElem?_eq_some_iff.1 h2).2
      rw [← hge, ← List.drop_eq_getElem_cons hjl, List.take_append_drop]
    have hap := keys_apart hst
    have he : es.toList.eraseIdx j = l1 ++ l2 := by
      rw [e1, ← e2, List.eraseIdx_append_of_length_le (Nat.le_refl _)]
      simp
    have hfl : es.toList.filter (fun x => decide (x.key ≠ kv U num)) = l1 ++ l2 := by
      rw [e1] at hap ⊢
      have hf := filter_split hap
      rw [h3] at hf
      exact hf
    have hlf : (leftOf (es.eraseIdxIfInBounds j) seen).toList = (leftOf es seen).toList.filter (fun x => decide (x.key ≠ kv U num)) := by
      unfold leftOf
      rw [Array.toList_filter, Array.toList_filter, hsub, he, ← hfl, List.filter_filter, List.filter_filter]
      exact List.filter_congr (fun x _ => Bool.and_comm _ _)
    refine ⟨setBlock w b (.map (es.eraseIdxIfInBounds j) clock), ?_, ⟨_, clock, since, seen, c0, setBlock_at hb, stamped_erase hst j, ?_, hk', hrr _, ?_, hsc, hsk, ?_⟩, setBlock_grown _ _ _, by simp [setBlock]⟩
    · simp [Builtin.delete_, run_underlying undM, MapKept.run_getObj_map hb, lawK.check w _ hkey, h1, MapKept.run_setObj_map _ hb, Result.andThen, setBlock]
    · rw [hsub, he, ← hfl]
      exact ho
    · intro x hx
      rw [hsub] at hx
      exact hold x ((List.eraseIdx_sublist _ _).subset hx)
    · rw [hlf]
      exact ho2
end
end Go.Proofs.Ytckkkhabjfbngaa
