/-
  'make' and 'copy' of integers as one step of a region. It speaks of no program.
-/
import Derived.Test.YtjgmkcmlkffjlaaAppend
namespace Go.Proofs.Ytjgmkcmlkffjlaa
open Go.RowKit
set_option linter.unusedVariables false

theorem wp_make_rd {P : Program} {w : World} {o : Oper} {a : Act} {K : Act → World → Prop} {Q : Exit → Act → World → Prop} (l c : Operand) (t : TypeId) (hop : o.op = Op.makeSlice t l c)
    (k : IntKind) (base : Nat) (e : TypeId) (i : TypeInfo) (h1 : P.underlying t = some (.slice e)) (h2 : P.info? e = some i) (h3 : i.zero = some (.int k 0)) (h4 : i.size = 1)
    (n : Nat) (hl : a.eval l = .int .i64 n) (hc : a.eval c = .int .i64 n) (b2 : i.bytes * n ≤ 281474976710656) (b3 : n ≤ maxLen) (b4 : base ≤ w.heap.size)
    (hK : ∀ w', Own k e w' base (.slice (some ⟨w.heap.size, 0, none⟩) n n) n (List.replicate n 0) → w.grownBy w' none → w'.heap.size = w.heap.size + 1 → K (a.put o.dst (.slice (some ⟨w.heap.size, 0, none⟩) n n)) w') : o.wp P a w K Q := by
  have h63' : (n : Int) ≤ 9223372036854775807 := by
    have h := b3
    simp [maxLen] at h
    omega
  have hb' : (i.bytes : Int) * (n : Int) ≤ 281474976710656 := by
    have h : ((i.bytes * n : Nat) : Int) ≤ 281474976710656 := by omega
    rwa [Int.natCast_mul] at h
  have hrun := run_make (P := P) w t e i (.int k 0) h1 h2 h3 .i64 .i64 n n (by omega) (Int.le_refl _) hb' h63'
  have hown := World.ownsRow_lit (e := e) (size := 1) w (madeCells (Value.int k 0).cells (n * 1)) n b4 b3 (size_madeCells _ _)
  simp only [Int.toNat_natCast, h4] at hrun
  unfold Oper.wp
  simp only [execOp, hop, hl, hc]
  simp [hrun, Result.andThen]
  refine hK _ ?_ (World.grownBy_alloc w _ none) (by simp)
  unfold Own
  rw [List.map_replicate, ← toList_madeCells_one]
  simp only [Nat.mul_one] at hown ⊢
  exact hown

theorem wp_copy_rd {P : Program} {w : World} {o : Oper} {a : Act} {K : Act → World → Prop} {Q : Exit → Act → World → Prop} (d s : Operand) (dT sT : TypeId)
    (hop : o.op = .call { callee := .builtin .copy, args := #[d, s], argTypes := #[dT, sT] })
    (k : IntKind) (e : TypeId) (hu : P.underlying dT = some (.slice e)) (hsz : (P.info? e).map (·.size) = some 1)
    (sp : Option Addr) (n sCap base g cap : Nat) (hd : a.eval d = .slice (some ⟨g, 0, none⟩) n cap) (hs : a.eval s = .slice sp n sCap)
    (cur ys : List Int) (hown : Own k e w base (.slice (some ⟨g, 0, none⟩) n cap) n cur) (hr : Rd k w sp n ys)
    (h : ∀ w', Own k e w' base (.slice (some ⟨g, 0, none⟩) n cap) n ys → w.grownBy w' (some g) → K (a.put o.dst (.int .i64 n)) w') : o.wp P a w K Q := by
  have hgo : goInt (n : Int) = .int .i64 n := rfl
  by_cases h0 : n = 0
  · subst h0
    obtain rfl : ys = [] := List.eq_nil_of_length_eq_zero hr.1
    obtain rfl : cur = [] := List.eq_nil_of_length_eq_zero hown.len
    have hrun := run_copy_none (P := P) w dT sT o.type e (some ⟨g, 0, none⟩) sp 0 cap 0 sCap hu hsz (by simp)
    unfold Oper.wp
    simp [execOp, hop, resolve, invoke, builtin, hd, hs, hrun, Result.andThen]
    exact h w hown (World.grownBy.refl _ _)
  · obtain ⟨b, o2, rfl, _⟩ := hr.at (show 0 < n by omega)
    have hlen := hown.len
    rcases hown.2 with ⟨h', _⟩ | ⟨g', cap', arr, h', hbg, hg, h4, h5, h6, htake⟩
    · simp at h'
    · simp only [Value.slice.injEq, Option.some.injEq, Addr.mk.injEq, and_true, true_and] at h'
      obtain ⟨rfl, rfl⟩ := h'
      have hl2 : (ys.map (Value.int k)).length = n := by simpa using hr.1
      rw [Nat.mul_one] at h6 htake
      have hrun := run_copy_row (P := P) w dT sT o.type e g 0 n cap ⟨b, o2, none⟩ n sCap arr e (ys.map (Value.int k)) hu hsz hg (by rw [hl2]; simp) (rd_cells hr) (by rw [hl2]; omega) (ints_one k ys)
      unfold Oper.wp
      simp only [hl2, List.take_zero, List.nil_append, Nat.zero_add, hgo] at hrun
      simp [execOp, hop, resolve, invoke, builtin, hd, hs, hrun, Result.andThen]
      refine h _ ?_ ⟨rfl, rfl, rfl, by simp [World.setRow], fun i _ hi => setRow_other w g i _ (fun e => hi (by simp [e]))⟩
      refine ⟨by simpa using hr.1, .inr ⟨g, cap, _, rfl, hbg, setRow_heap w g arr _ e _ hg, h4, h5, ?_, ?_⟩⟩
      · simp [hr.1]; omega
      · simp [hr.1]
end Go.Proofs.Ytjgmkcmlkffjlaa
