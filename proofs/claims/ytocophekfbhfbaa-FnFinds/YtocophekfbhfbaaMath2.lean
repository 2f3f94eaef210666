/-
  How a character is read from bytes, as plain mathematics.
-/
import Derived.Test.YtocophekfbhfbaaMath1
namespace Go.Proofs.Ytocophekfbhfbaa

/-- Every number is a byte. -/
def Bytes (xs : List Int) : Prop := ∀ x ∈ xs, 0 ≤ x ∧ x ≤ 255
theorem Bytes.at {xs : List Int} (h : Bytes xs) (j : Nat) : 0 ≤ xs.getD j 0 ∧ xs.getD j 0 ≤ 255 := by
  by_cases hj : j < xs.length
  · have := h xs[j] (List.getElem_mem hj)
    simpa [List.getD_eq_getElem?_getD, hj] using this
  · simp [List.getD_eq_getElem?_getD, hj]
theorem Bytes.drop {xs : List Int} (h : Bytes xs) (j : Nat) : Bytes (xs.drop j) := fun x hx => h x (List.mem_of_mem_drop hx)

/-- The six bits of a byte that goes on a character; -1: it is none. -/
def more (xs : List Int) (i : Nat) : Int := if i < xs.length ∧ 128 ≤ xs.getD i 0 ∧ xs.getD i 0 ≤ 191 then xs.getD i 0 - 128 else -1
/-- The character that begins at a place, and how many bytes it has; 0: there is none. -/
def dec3 (b x y : Int) : Int × Int :=
  if 224 ≤ b ∧ b < 240 ∧ 0 ≤ x ∧ 0 ≤ y ∧ 2048 ≤ (b - 224) * 4096 + x * 64 + y ∧ isCh ((b - 224) * 4096 + x * 64 + y) = true then ((b - 224) * 4096 + x * 64 + y, 3) else (0, 0)
def dec (xs : List Int) (i : Nat) : Int × Int :=
  if xs.getD i 0 < 128 then (xs.getD i 0, 1)
  else if 194 ≤ xs.getD i 0 ∧ xs.getD i 0 < 224 ∧ 0 ≤ more xs (i + 1) then ((xs.getD i 0 - 192) * 64 + more xs (i + 1), 2)
  else dec3 (xs.getD i 0) (more xs (i + 1)) (more xs (i + 2))

theorem more_bd {xs : List Int} (i : Nat) : -1 ≤ more xs i ∧ more xs i ≤ 63 := by
  unfold more; split <;> omega
theorem more_drop (xs : List Int) (i j : Nat) : more (xs.drop i) j = more xs (i + j) := by
  have e : (xs.drop i).getD j 0 = xs.getD (i + j) 0 := by simp [List.getD_eq_getElem?_getD]
  have e2 : (j < (xs.drop i).length) = (i + j < xs.length) := by simp; omega
  unfold more
  simp only [e, e2]
theorem dec_drop (xs : List Int) (i : Nat) : dec (xs.drop i) 0 = dec xs i := by
  have e : (xs.drop i).getD 0 0 = xs.getD i 0 := by simp [List.getD_eq_getElem?_getD]
  unfold dec
  rw [e, more_drop, more_drop]

theorem dec_bd {xs : List Int} (h : Bytes xs) (i : Nat) : 0 ≤ (dec xs i).1 ∧ (dec xs i).1 ≤ 65535 ∧ 0 ≤ (dec xs i).2 ∧ (dec xs i).2 ≤ 3 := by
  have hb := h.at i
  have m1 := more_bd (xs := xs) (i + 1)
  have m2 := more_bd (xs := xs) (i + 2)
  unfold dec dec3
  generalize xs.getD i 0 = z at *
  generalize more xs (i + 1) = x at *
  generalize more xs (i + 2) = y at *
  split
  · simp; omega
  · split
    · simp; omega
    · split
      · simp; omega
      · simp

theorem and192_nat : ∀ n : Fin 256, ((n.val &&& 192 = 128) ↔ (128 ≤ n.val ∧ n.val ≤ 191)) := by decide +kernel
theorem and192 (x : Int) (h0 : 0 ≤ x) (h1 : x ≤ 255) : (bits .and .u8 x 192 != 128) = !decide (128 ≤ x ∧ x ≤ 191) := by
  rw [u8_and x 192 h0 (by omega) (by omega) (by omega), show (192 : Int).toNat = 192 from rfl]
  have h := and192_nat ⟨x.toNat, by omega⟩
  simp only at h
  rw [Bool.eq_iff_iff]
  simp
  omega
theorem and63_u8 (x : Int) (h0 : 0 ≤ x) (h1 : x ≤ 255) : bits .and .u8 x 63 = x % 64 := by
  rw [u8_and x 63 h0 (by omega) (by omega) (by omega), show (63 : Int).toNat = 63 from rfl, nat_mask6]
  omega
theorem and31 (c : Int) (h0 : 0 ≤ c) (h1 : c < 65536) : bits .and .u16 c 31 = c % 32 := by
  rw [u16_and c 31 h0 h1 (by omega) (by omega), show (31 : Int).toNat = 31 from rfl, nat_mask5]
  omega
theorem and15 (c : Int) (h0 : 0 ≤ c) (h1 : c < 65536) : bits .and .u16 c 15 = c % 16 := by
  rw [u16_and c 15 h0 h1 (by omega) (by omega), show (15 : Int).toNat = 15 from rfl, nat_mask4]
  omega
end Go.Proofs.Ytocophekfbhfbaa
