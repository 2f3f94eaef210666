/-
  What one sees of a line, as plain mathematics.
-/
import Derived.Test.YtocophekfbhfbaaHlpCA
import Derived.Test.YtocophekfbhfbaaMathE
namespace Go.Proofs.Ytocophekfbhfbaa

def hexd (v : Int) : Int := if v < 10 then 48 + v else 55 + v
/-- The characters that are seen of what begins at a place, in a column. -/
def shownL (xs : List Int) (i col : Nat) : List Int :=
  if xs.getD i 0 = 9 then List.replicate (4 - col % 4) 32
  else if xs.getD i 0 < 32 ∨ xs.getD i 0 = 127 then [94, if xs.getD i 0 = 127 then 63 else xs.getD i 0 + 64]
  else if (dec xs i).2 = 0 then [60, hexd (xs.getD i 0 / 16), hexd (xs.getD i 0 % 16), 62]
  else [(dec xs i).1]
/-- How many bytes that is. -/
def shownN (xs : List Int) (i : Nat) : Nat :=
  if xs.getD i 0 = 9 then 1
  else if xs.getD i 0 < 32 ∨ xs.getD i 0 = 127 then 1
  else if (dec xs i).2 = 0 then 1
  else (dec xs i).2.toNat

theorem shownL_len (xs : List Int) (i col : Nat) : 1 ≤ (shownL xs i col).length ∧ (shownL xs i col).length ≤ 4 := by
  unfold shownL
  split
  · simp; omega
  · split
    · simp
    · split <;> simp
theorem shownN_bd {xs : List Int} (h : Bytes xs) {i : Nat} (hi : i < xs.length) : 1 ≤ shownN xs i ∧ shownN xs i ≤ 3 ∧ i + shownN xs i ≤ xs.length := by
  have hb := dec_bd h i
  have hd := dec_in hi
  unfold shownN
  split
  · omega
  · split
    · omega
    · split
      · omega
      · omega
theorem shownL_bd {xs : List Int} (h : Bytes xs) (i col : Nat) : ∀ c ∈ shownL xs i col, 0 ≤ c ∧ c ≤ 65535 := by
  have hb := dec_bd h i
  have hx := h.at i
  intro c hc
  unfold shownL at hc
  generalize xs.getD i 0 = z at *
  generalize dec xs i = d at *
  split at hc
  · have := List.eq_of_mem_replicate hc; omega
  · split at hc
    · simp at hc; rcases hc with rfl | rfl
      · omega
      · split <;> omega
    · split at hc
      · simp [hexd] at hc
        rcases hc with rfl | rfl | rfl | rfl
        · omega
        · split <;> omega
        · split <;> omega
        · omega
      · simp at hc; omega

/-- The cells from a place on, behind those that are there. -/
def cellsF (xs : List Int) : Nat → Nat → List C3 → List C3
  | 0, _, out => out
  | f + 1, i, out => if i < xs.length then cellsF xs f (i + shownN xs i) (out ++ (shownL xs i out.length).map fun c => (c, (i : Int), (shownN xs i : Int))) else out
def cellsAll (xs : List Int) : List C3 := cellsF xs xs.length 0 []
theorem cellsF_end {xs : List Int} (f i : Nat) (out : List C3) (h : xs.length ≤ i) : cellsF xs f i out = out := by
  cases f with
  | zero => rfl
  | succ f => unfold cellsF; rw [if_neg (by omega)]
theorem cellsF_step {xs : List Int} {f i : Nat} {out : List C3} (h : i < xs.length) : cellsF xs (f + 1) i out = cellsF xs f (i + shownN xs i) (out ++ (shownL xs i out.length).map fun c => (c, (i : Int), (shownN xs i : Int))) := by
  conv => lhs; unfold cellsF
  rw [if_pos h]

theorem cellsF_len {xs : List Int} (h : Bytes xs) : ∀ (f i : Nat) (out : List C3), i ≤ xs.length → out.length ≤ 4 * i → (cellsF xs f i out).length ≤ 4 * xs.length
  | 0, i, out, hi, ho => by unfold cellsF; omega
  | f + 1, i, out, hi, ho => by
    unfold cellsF
    split
    · rename_i hlt
      have sn := shownN_bd h hlt
      have sl := shownL_len xs i out.length
      refine cellsF_len h f _ _ sn.2.2 ?_
      simp only [List.length_append, List.length_map]
      omega
    · omega
theorem cellsAll_len {xs : List Int} (h : Bytes xs) : (cellsAll xs).length ≤ 4 * xs.length := cellsF_len h _ _ _ (by omega) (by simp)

theorem xor64_nat : ∀ n : Fin 256, n.val < 32 ∨ n.val = 127 → (n.val ^^^ 64) = if n.val = 127 then 63 else n.val + 64 := by decide +kernel
theorem xor64_u8 (x : Int) (h0 : 0 ≤ x) (h1 : x ≤ 255) (h : x < 32 ∨ x = 127) : bits .xor .u8 x 64 = if x = 127 then 63 else x + 64 := by
  rw [u8_xor x 64 h0 (by omega) (by omega) (by omega), show (64 : Int).toNat = 64 from rfl]
  have := xor64_nat ⟨x.toNat, by omega⟩ (by simp only; omega)
  simp only at this
  rw [this]
  by_cases e : x = 127
  · subst e; rfl
  · rw [if_neg e, if_neg (by omega)]; omega
theorem xor64_u16 (x : Int) (h0 : 0 ≤ x) (h1 : x ≤ 255) (h : x < 32 ∨ x = 127) : bits .xor .u16 x 64 = if x = 127 then 63 else x + 64 := by
  rw [u16_xor x 64 h0 (by omega) (by omega) (by omega), show (64 : Int).toNat = 64 from rfl]
  have := xor64_nat ⟨x.toNat, by omega⟩ (by simp only; omega)
  simp only at this
  rw [this]
  by_cases e : x = 127
  · subst e; rfl
  · rw [if_neg e, if_neg (by omega)]; omega
end Go.Proofs.Ytocophekfbhfbaa
