/-
  Lines of bytes, as plain mathematics.
-/
import Derived.Test.YtocophekfbhfbaaRows2
import Derived.Test.YtocophekfbhfbaaFilesM
namespace Go.Proofs.Ytocophekfbhfbaa

/-- A line: From, Size. -/
abbrev L2 := Int × Int
def lineE (c : L2) : List Value := [.int .i64 c.1, .int .i64 c.2]
theorem lineE_len (c : L2) : (lineE c).length = 2 := rfl

/-- Lines that count on from k. -/
def mkL (k : Int) (n : Nat) : List L2 := (List.range n).map fun (i : Nat) => (k + 2 * (i : Int), k + 2 * (i : Int) + 1)
theorem mkL_len (k : Int) (n : Nat) : (mkL k n).length = n := by simp [mkL]
theorem mkL_at (k : Int) (n j : Nat) (h : j < n) : (mkL k n)[j]? = some (k + 2 * (j : Int), k + 2 * (j : Int) + 1) := by
  simp [mkL, h]
theorem mkL_succ (k : Int) (n : Nat) : mkL k (n + 1) = mkL k n ++ [(k + 2 * (n : Int), k + 2 * (n : Int) + 1)] := by
  simp [mkL, List.range_succ]

/-- The lines of xs, where xs stands at the place i and the line at hand began at f. -/
def lnsA (f i : Nat) : List Int → List L2
  | [] => if f < i then [((f : Int), (i : Int) - f)] else []
  | x :: xs => if x = 10 then ((f : Int), (i : Int) - f) :: lnsA (i + 1) (i + 1) xs else lnsA f (i + 1) xs
def lns (xs : List Int) : List L2 := lnsA 0 0 xs

/-- How many bytes there are to the next line feed, or to the end. -/
def lnSize (xs : List Int) : Nat := xs.findIdx (fun x => x == 10)
theorem lnSize_le (xs : List Int) : lnSize xs ≤ xs.length := List.findIdx_le_length

theorem lnsA_first : ∀ (xs : List Int) (f i : Nat), f ≤ i → (f < i ∨ xs ≠ []) →
    lnsA f i xs = ((f : Int), (i : Int) - f + lnSize xs) :: lnsA (i + lnSize xs + 1) (i + lnSize xs + 1) (xs.drop (lnSize xs + 1))
  | [], f, i, _, h => by
    have hf : f < i := by rcases h with h | h <;> simp_all
    simp [lnsA, lnSize, hf]
  | x :: xs, f, i, hfi, _ => by
    by_cases hx : x = 10
    · subst hx
      have e : lnSize ((10 : Int) :: xs) = 0 := by simp [lnSize, List.findIdx_cons]
      rw [e]
      simp [lnsA]
    · have hx' : (x == 10) = false := by simpa using hx
      have e : lnSize (x :: xs) = lnSize xs + 1 := by simp [lnSize, List.findIdx_cons, hx']
      rw [e, lnsA, if_neg hx, lnsA_first xs f (i + 1) (by omega) (.inl (by omega))]
      rw [show i + 1 + lnSize xs + 1 = i + (lnSize xs + 1) + 1 by omega, List.drop_succ_cons]
      congr 2
      omega

/-- A line that is not at the end, and what is behind it. -/
theorem lns_step (xs : List Int) (f : Nat) (h : f < xs.length) :
    lnsA f f (xs.drop f) = ((f : Int), (lnSize (xs.drop f) : Int)) :: lnsA (f + lnSize (xs.drop f) + 1) (f + lnSize (xs.drop f) + 1) (xs.drop (f + lnSize (xs.drop f) + 1)) := by
  have h' : xs.drop f ≠ [] := by simpa using h
  rw [lnsA_first (xs.drop f) f f (Nat.le_refl _) (.inr h'), List.drop_drop]
  rw [show f + (lnSize (xs.drop f) + 1) = f + lnSize (xs.drop f) + 1 by omega]
  simp
theorem lns_end (xs : List Int) (f : Nat) (h : xs.length ≤ f) : lnsA f f (xs.drop f) = [] := by
  rw [List.drop_of_length_le h]; simp [lnsA]

theorem lnsA_len : ∀ (xs : List Int) (f i : Nat), (lnsA f i xs).length ≤ xs.length + (if f < i then 1 else 0)
  | [], f, i => by simp only [lnsA]; split <;> simp
  | x :: xs, f, i => by
    simp only [lnsA]
    split
    · have := lnsA_len xs (i + 1) (i + 1)
      simp at this ⊢
      omega
    · have := lnsA_len xs f (i + 1)
      have h2 : (if f < i + 1 then 1 else 0) ≤ 1 := by split <;> omega
      have h3 : 0 ≤ (if f < i then 1 else 0) := by split <;> omega
      simp at this ⊢
      omega
theorem lns_len (xs : List Int) : (lns xs).length ≤ xs.length := by
  have := lnsA_len xs 0 0
  simpa [lns] using this

/-- Each line lies in the bytes. -/
theorem lnsA_in : ∀ (xs : List Int) (f i : Nat), f ≤ i → ∀ l ∈ lnsA f i xs, (f : Int) ≤ l.1 ∧ 0 ≤ l.2 ∧ l.1 + l.2 ≤ i + xs.length
  | [], f, i, hf, l, hl => by
    simp only [lnsA] at hl
    split at hl
    · simp at hl
      subst hl
      simp
      omega
    · simp at hl
  | x :: xs, f, i, hf, l, hl => by
    simp only [lnsA] at hl
    split at hl
    · rcases List.mem_cons.1 hl with h | h
      · subst h
        simp
        omega
      · have := lnsA_in xs (i + 1) (i + 1) (Nat.le_refl _) l h
        simp at this ⊢
        omega
    · have := lnsA_in xs f (i + 1) (by omega) l hl
      simp at this ⊢
      omega
theorem lns_in (xs : List Int) : ∀ l ∈ lns xs, 0 ≤ l.1 ∧ 0 ≤ l.2 ∧ l.1 + l.2 ≤ xs.length := by
  intro l hl
  have := lnsA_in xs 0 0 (Nat.le_refl _) l hl
  simpa using this

/-- Lines with their numbers, from k on. -/
def numL (k : Nat) : List L2 → List (Int × L2)
  | [] => []
  | l :: ls => ((k : Int), l) :: numL (k + 1) ls
theorem numL_len : ∀ (ls : List L2) (k : Nat), (numL k ls).length = ls.length
  | [], k => rfl
  | l :: ls, k => by simp [numL, numL_len ls (k + 1)]
theorem numL_map : ∀ (ls : List L2) (k : Nat), (numL k ls).map (·.2) = ls
  | [], k => rfl
  | l :: ls, k => by simp [numL, numL_map ls (k + 1)]
theorem numL_at : ∀ (ls : List L2) (k j : Nat), (numL k ls)[j]? = (ls[j]?).map fun l => (((k + j : Nat) : Int), l)
  | [], k, j => by simp [numL]
  | l :: ls, k, 0 => by simp [numL]
  | l :: ls, k, j + 1 => by
    simp [numL, numL_at ls (k + 1) j]
    cases ls[j]? <;> simp
    omega

def linCode (xs : List Int) : Int := if 400 < xs.length then 2 else 0
def linRes (xs : List Int) : List L2 := if 400 < xs.length then [] else lns xs
theorem linRes_len (xs : List Int) : (linRes xs).length ≤ 400 := by
  unfold linRes
  split
  · simp
  · have := lns_len xs
    omega

def lbCode (xs : List Int) (I : Int) : Int := if 400 < xs.length then 2 else if I < 0 ∨ ((lns xs).length : Int) ≤ I then 3 else 0
def cutOf (xs : List Int) (l : L2) : List Int := (xs.drop l.1.toNat).take l.2.toNat
def lbRes (xs : List Int) (I : Int) : List Int := if lbCode xs I = 0 then cutOf xs ((lns xs).getD I.toNat (0, 0)) else []
theorem lbRes_len (xs : List Int) (I : Int) : (lbRes xs I).length ≤ 400 := by
  unfold lbRes
  by_cases h : lbCode xs I = 0
  · rw [if_pos h]
    have : ¬ 400 < xs.length := by
      intro h2
      unfold lbCode at h
      rw [if_pos h2] at h
      omega
    unfold cutOf
    simp
    omega
  · rw [if_neg h]
    simp
end Go.Proofs.Ytocophekfbhfbaa
