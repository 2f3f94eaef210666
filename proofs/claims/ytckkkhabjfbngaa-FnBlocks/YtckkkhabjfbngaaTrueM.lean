/-
  What CacheTrue answers, in plain mathematics; strings out of bytes are told apart.
-/
import Derived.Test.YtckkkhabjfbngaaLoad
namespace Go.Proofs.Ytckkkhabjfbngaa
open Go.RowKit
set_option linter.unusedVariables false

/-- What is wrong with a cache, or else with a file. -/
def asked (u z : Int) (bs : List Bk) (n : Nat) : Int := if cacheFault u z bs ≠ 0 then cacheFault u z bs else fFault n

/-- A cache without a fault. -/
structure OkC (u z : Int) (bs : List Bk) : Prop where
  u1 : 1 ≤ u
  u2 : u ≤ 64
  z1 : 1 ≤ z
  z2 : z ≤ 6
  len : (bs.length : Int) ≤ z
  each : ∀ b ∈ bs, 0 ≤ b.1 ∧ b.1 ≤ 400 ∧ 1 ≤ b.2.length ∧ (b.2.length : Int) ≤ u
  nodup : (bs.map (·.1)).Nodup

theorem rowFault_ok {u : Int} : ∀ (bs ah : List Bk), rowFault u ah bs = 0 → (∀ b ∈ bs, 0 ≤ b.1 ∧ b.1 ≤ 400 ∧ 1 ≤ b.2.length ∧ (b.2.length : Int) ≤ u ∧ hasN ah b.1 = false) ∧ (bs.map (·.1)).Nodup
  | [], _, _ => ⟨fun b hb => by simp at hb, by simp⟩
  | b :: bs, ah, h => by
    rw [rowFault] at h
    by_cases h1 : oneFault u ah b = 0
    · rw [h1] at h
      simp only [ne_eq, not_true_eq_false, if_false] at h
      obtain ⟨k1, k2⟩ := rowFault_ok bs (ah ++ [b]) h
      have hb : 0 ≤ b.1 ∧ b.1 ≤ 400 ∧ 1 ≤ b.2.length ∧ (b.2.length : Int) ≤ u ∧ hasN ah b.1 = false := by
        unfold oneFault at h1
        by_cases q1 : b.1 < 0 ∨ 400 < b.1
        · rw [if_pos q1] at h1; omega
        rw [if_neg q1] at h1
        by_cases q2 : (b.2.length : Int) < 1 ∨ u < b.2.length
        · rw [if_pos q2] at h1; omega
        rw [if_neg q2] at h1
        by_cases q3 : hasN ah b.1 = true
        · rw [if_pos q3] at h1; omega
        exact ⟨by omega, by omega, by omega, by omega, by simpa using q3⟩
      have hsp : ∀ c ∈ bs, hasN ah c.1 = false ∧ b.1 ≠ c.1 := fun c hc => by
        have := (k1 c hc).2.2.2.2
        rw [hasN_append] at this
        simp [hasN] at this
        exact this
      refine ⟨fun c hc => ?_, ?_⟩
      · rcases List.mem_cons.1 hc with rfl | hc
        · exact hb
        · obtain ⟨p1, p2, p3, p4, _⟩ := k1 c hc
          exact ⟨p1, p2, p3, p4, (hsp c hc).1⟩
      · rw [List.map_cons, List.nodup_cons]
        refine ⟨fun hm => ?_, k2⟩
        obtain ⟨c, hc, e⟩ := List.mem_map.1 hm
        exact (hsp c hc).2 e.symm
    · rw [if_pos h1] at h
      exact absurd h h1

theorem okC_of {u z : Int} {bs : List Bk} (h : cacheFault u z bs = 0) : OkC u z bs := by
  unfold cacheFault at h
  by_cases q1 : u < 1 ∨ 64 < u ∨ z < 1 ∨ 6 < z
  · rw [if_pos q1] at h; omega
  rw [if_neg q1] at h
  by_cases q2 : z < bs.length
  · rw [if_pos q2] at h; omega
  rw [if_neg q2] at h
  obtain ⟨k1, k2⟩ := rowFault_ok bs [] h
  exact ⟨by omega, by omega, by omega, by omega, by omega, fun b hb => by obtain ⟨p1, p2, p3, p4, _⟩ := k1 b hb; exact ⟨p1, p2, p3, p4⟩, k2⟩

/-- Each block has the bytes that the file has there. -/
def trueB (xs : List Int) (U : Nat) (bs : List Bk) : Bool := bs.all fun b => decide (b.2 = blkAt xs b.1.toNat U)

def cacheTrue (u z : Int) (bs : List Bk) (xs : List Int) : Bool := decide (asked u z bs xs.length = 0) && trueB xs u.toNat bs

theorem trueB_succ {xs : List Int} {U : Nat} {bs : List Bk} {k : Nat} {num : Int} {ys : List Int} (h : bs[k]? = some (num, ys)) : trueB xs U (bs.take (k + 1)) = (trueB xs U (bs.take k) && decide (ys = blkAt xs num.toNat U)) := by
  obtain ⟨hk, e⟩ := List.getElem?_eq_some_iff.1 h
  unfold trueB
  rw [List.take_succ_eq_append_getElem hk, List.all_append, e]
  simp

theorem trueB_no {xs : List Int} {U : Nat} {bs : List Bk} {k : Nat} {num : Int} {ys : List Int} (h : bs[k]? = some (num, ys)) (hne : ys ≠ blkAt xs num.toNat U) : trueB xs U bs = false := by
  have : trueB xs U bs = (trueB xs U (bs.take (k + 1)) && trueB xs U (bs.drop (k + 1))) := by
    unfold trueB
    rw [← List.all_append, List.take_append_drop]
  rw [this, trueB_succ h]
  simp [hne]

theorem strOf_data (xs : List Int) : ∀ acc : ByteArray, (xs.foldl (fun r n => r.push (UInt8.ofNat n.toNat)) acc).data.toList = acc.data.toList ++ xs.map fun n => UInt8.ofNat n.toNat := by
  induction xs with
  | nil => simp
  | cons x xs ih =>
    intro acc
    rw [List.foldl_cons, ih]
    simp [ByteArray.push]

theorem bytes_map_inj : ∀ {xs ys : List Int}, Bytes xs → Bytes ys → (xs.map fun n => UInt8.ofNat n.toNat) = (ys.map fun n => UInt8.ofNat n.toNat) → xs = ys
  | [], [], _, _, _ => rfl
  | [], _ :: _, _, _, h => by simp at h
  | _ :: _, [], _, _, h => by simp at h
  | x :: xs, y :: ys, hx, hy, h => by
    simp only [List.map_cons, List.cons.injEq] at h
    have h1 := congrArg UInt8.toNat h.1
    have bx := hx x List.mem_cons_self
    have b_y := hy y List.mem_cons_self
    rw [UInt8.toNat_ofNat', UInt8.toNat_ofNat'] at h1
    have e1 : x = y := by omega
    have e2 := bytes_map_inj (fun z hz => hx z (List.mem_cons_of_mem _ hz)) (fun z hz => hy z (List.mem_cons_of_mem _ hz)) h.2
    rw [e1, e2]

theorem strOf_inj {xs ys : List Int} (hx : Bytes xs) (hy : Bytes ys) (h : strOf xs = strOf ys) : xs = ys := by
  have h1 := strOf_data xs ByteArray.empty
  have h2 := strOf_data ys ByteArray.empty
  have e : (strOf xs).data.toList = (strOf ys).data.toList := by rw [h]
  unfold strOf at e
  rw [h1, h2] at e
  exact bytes_map_inj hx hy (by simpa using e)

theorem strOf_same {xs ys : List Int} (hx : Bytes xs) (hy : Bytes ys) : (strOf xs).toList = (strOf ys).toList ↔ xs = ys := by
  constructor
  · intro h
    rw [Go.ByteArray.toList_eq, Go.ByteArray.toList_eq] at h
    unfold strOf at h
    rw [strOf_data xs ByteArray.empty, strOf_data ys ByteArray.empty] at h
    exact bytes_map_inj hx hy (by simpa using h)
  · intro h
    rw [h]

theorem bytes_blk {xs : List Int} (h : Bytes xs) (num U : Nat) : Bytes (blkAt xs num U) := fun x hx => h x (List.mem_of_mem_drop (List.mem_of_mem_take hx))
end Go.Proofs.Ytckkkhabjfbngaa
