/-
  Chapter 5, plain mathematics: nodes, a byte in a text, what HasByte tells. It speaks of no program.
-/
import Derived.Test.YtocophekfbhfbaaChg
import Derived.Lib.Bytealg
namespace Go.Proofs.Ytocophekfbhfbaa
open Go.RowKit
set_option linter.unusedVariables false

/-- A node. -/
structure Nd where
  k : Int
  c : Int
  s : ByteArray
  l : Int
  r : Int

instance : Inhabited Nd := ⟨⟨0, 0, ⟨#[]⟩, 0, 0⟩⟩

/-- The five cells of a node. -/
def ndE (n : Nd) : List Value := [.int .i64 n.k, .int .i64 n.c, .string n.s, .int .i64 n.l, .int .i64 n.r]
theorem ndE_len (n : Nd) : (ndE n).length = 5 := rfl

theorem five {w : World} {b off : Nat} {n : Nd} (h : ∀ f v, (ndE n)[f]? = some v → w.cell? ⟨b, off + f, none⟩ = some v) :
    w.cell? ⟨b, off, none⟩ = some (.int .i64 n.k) ∧ w.cell? ⟨b, off + 1, none⟩ = some (.int .i64 n.c) ∧ w.cell? ⟨b, off + 2, none⟩ = some (.string n.s) ∧ w.cell? ⟨b, off + 3, none⟩ = some (.int .i64 n.l) ∧ w.cell? ⟨b, off + 4, none⟩ = some (.int .i64 n.r) :=
  ⟨h 0 _ rfl, h 1 _ rfl, h 2 _ rfl, h 3 _ rfl, h 4 _ rfl⟩

/-- A byte in a text. -/
def inL (l : List UInt8) (c : Int) : Bool := l.any fun b => decide ((b.toNat : Int) = c)
def inB (s : ByteArray) (c : Int) : Bool := inL s.data.toList c

theorem u8_eq {b : UInt8} {c : Int} (h0 : 0 ≤ c) (h1 : c < 256) : b = c.toNat.toUInt8 ↔ (b.toNat : Int) = c := by
  constructor
  · intro h
    subst h
    simp
    omega
  · intro h
    apply UInt8.toNat_inj.1
    simp
    omega

theorem index_in (l : List UInt8) (c : Int) (h0 : 0 ≤ c) (h1 : c < 256) : decide (0 ≤ Lib.indexByte l c.toNat.toUInt8) = inL l c := by
  induction l with
  | nil => simp [Lib.indexByte, inL]
  | cons b l ih =>
    have hge := Lib.indexByte_ge l c.toNat.toUInt8
    rw [inL, List.any_cons]
    unfold Lib.indexByte
    by_cases hb : b = c.toNat.toUInt8
    · rw [if_pos (by simpa using hb)]
      have := (u8_eq h0 h1).1 hb
      simp [this]
    · rw [if_neg (by simpa using hb)]
      have hb' : ¬ (b.toNat : Int) = c := fun h => hb ((u8_eq h0 h1).2 h)
      rw [show decide ((b.toNat : Int) = c) = false by simpa using hb', Bool.false_or]
      rw [inL] at ih
      rw [← ih]
      by_cases hm : Lib.indexByte l c.toNat.toUInt8 = -1
      · simp [hm]
      · rw [if_neg (by simpa using hm)]
        have h2 : 0 ≤ Lib.indexByte l c.toNat.toUInt8 := by omega
        rw [decide_eq_true h2, decide_eq_true (by omega)]

theorem inL_no {l : List UInt8} {c : Int} (h : ∀ j, j < l.length → ((l.getD j 0).toNat : Int) ≠ c) : inL l c = false := by
  rw [inL, List.any_eq_false]
  intro b hb
  obtain ⟨j, hj, rfl⟩ := List.mem_iff_getElem.1 hb
  have := h j hj
  simpa [List.getD_eq_getElem?_getD, hj] using this

theorem inL_yes {l : List UInt8} {c : Int} {j : Nat} (hj : j < l.length) (h : ((l.getD j 0).toNat : Int) = c) : inL l c = true := by
  rw [inL, List.any_eq_true]
  refine ⟨l[j], List.getElem_mem hj, ?_⟩
  simpa [List.getD_eq_getElem?_getD, hj] using h

theorem str_at (s : ByteArray) (k : Nat) (h : k < s.size) : ∃ b : UInt8, s[k]'h = b ∧ s.data.toList.getD k 0 = b := by
  refine ⟨s[k]'h, rfl, ?_⟩
  have h' : k < s.data.toList.length := by rw [Array.length_toList]; exact h
  rw [List.getD_eq_getElem?_getD, List.getElem?_eq_getElem h']
  rfl

/-- None of the first k bytes is c. -/
def NotYet (l : List UInt8) (c : Int) (k : Nat) : Prop := ∀ j, j < k → ((l.getD j 0).toNat : Int) ≠ c
theorem NotYet.zero (l : List UInt8) (c : Int) : NotYet l c 0 := fun j hj => by omega
theorem NotYet.succ {l : List UInt8} {c : Int} {k : Nat} (h : NotYet l c k) (hk : ((l.getD k 0).toNat : Int) ≠ c) : NotYet l c (k + 1) := fun j hj => by
  by_cases hjk : j = k
  · rw [hjk]; exact hk
  · exact h j (by omega)

/-- What HasByte tells. -/
def hasB (n : Nd) (b : Int) : Bool :=
  if n.k = 2 then decide (n.c = b) else if n.k = 3 then decide (b ≠ 10) else if n.k = 4 then inB n.s b else if n.k = 5 then decide (b ≠ 10) && !inB n.s b else false

/-- The bytes of all sets. -/
def ndSum (cs : List Nd) : Nat := (cs.map fun n => n.s.size).sum
theorem ndSum_succ {cs : List Nd} {k : Nat} {n : Nd} (h : cs[k]? = some n) : ndSum (cs.take (k + 1)) = ndSum (cs.take k) + n.s.size := by
  rw [List.take_add_one, h]
  simp [ndSum]
theorem ndSum_take (cs : List Nd) (k : Nat) : ndSum (cs.take k) ≤ ndSum cs := by
  have h : ndSum cs = ndSum (cs.take k) + ndSum (cs.drop k) := by
    rw [ndSum, ndSum, ndSum, ← List.sum_append_nat, ← List.map_append, List.take_append_drop]
  omega
theorem ndSum_at {cs : List Nd} {n : Nd} (h : n ∈ cs) : n.s.size ≤ ndSum cs := by
  induction cs with
  | nil => simp at h
  | cons a cs ih =>
    simp [ndSum] at h ih ⊢
    rcases h with rfl | h
    · omega
    · have := ih h
      omega

/-- A node that is nothing. -/
def nd0 : Nd := ⟨0, 0, ⟨#[]⟩, 0, 0⟩
end Go.Proofs.Ytocophekfbhfbaa
