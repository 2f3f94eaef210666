/-
  The cells of a line: each begins where the one ahead ended, or lies with it; none has a fault. Plain mathematics.
-/
import Derived.Test.YtjnbegemdhkciaaMathD
namespace Go.Proofs.Ytjnbegemdhkciaa

/-- The cells, read from the front, at a place and at the place of the last. -/
def walkOk (n : Int) : Int → Int → List C3 → Prop
  | a, _, [] => a = n
  | a, l, c :: cs => 0 ≤ c.2.1 ∧ (c.2.1 = a ∨ c.2.1 = l) ∧ 1 ≤ c.2.2 ∧ c.2.1 + c.2.2 ≤ n ∧ (if c.2.1 = a then walkOk n (a + c.2.2) a cs else walkOk n a l cs)

theorem walkOk_rep (n : Int) (i u : Int) (h0 : 0 ≤ i) (h1 : 1 ≤ u) (h2 : i + u ≤ n) (rest : List C3) (h : walkOk n (i + u) i rest) : ∀ L : List Int, walkOk n (i + u) i (L.map (fun c => (c, i, u)) ++ rest)
  | [] => h
  | c :: L => by
    refine ⟨h0, .inr rfl, h1, h2, ?_⟩
    show (if i = i + u then _ else _)
    rw [if_neg (by omega)]
    exact walkOk_rep n i u h0 h1 h2 rest h L

theorem cellsF_walk {xs : List Int} (h : Bytes xs) : ∀ (f i : Nat) (out : List C3) (l : Int), i ≤ xs.length → xs.length ≤ i + f → ∃ g, cellsF xs f i out = out ++ g ∧ walkOk xs.length i l g
  | 0, i, out, l, hi, hf => ⟨[], by simp [cellsF], by show (i : Int) = xs.length; omega⟩
  | f + 1, i, out, l, hi, hf => by
    unfold cellsF
    split
    · rename_i hlt
      have sn := shownN_bd h hlt
      have sl := shownL_len xs i out.length
      generalize shownN xs i = u at *
      generalize shownL xs i out.length = L at *
      obtain ⟨g, hg, hw⟩ := cellsF_walk h f (i + u) (out ++ L.map fun c => (c, (i : Int), (u : Int))) i sn.2.2 (by omega)
      refine ⟨(L.map fun c => (c, (i : Int), (u : Int))) ++ g, by rw [hg, List.append_assoc], ?_⟩
      cases L with
      | nil => simp at sl
      | cons c L =>
        refine ⟨by show (0 : Int) ≤ i; omega, .inl rfl, by show (1 : Int) ≤ u; omega, by show (i : Int) + u ≤ xs.length; omega, ?_⟩
        show (if (i : Int) = i then _ else _)
        rw [if_pos rfl]
        exact walkOk_rep (xs.length : Int) (i : Int) (u : Int) (by omega) (by omega) (by omega) g (by simpa using hw) L
    · exact ⟨[], by simp, by show (i : Int) = xs.length; omega⟩

theorem cellsAll_walk {xs : List Int} (h : Bytes xs) : walkOk xs.length 0 0 (cellsAll xs) := by
  obtain ⟨g, hg, hw⟩ := cellsF_walk h xs.length 0 [] 0 (by omega) (by omega)
  unfold cellsAll
  rw [hg]
  exact hw

theorem walkOk_at {n a l : Int} {cs : List C3} {k : Nat} {c : C3} (h : walkOk n a l (cs.drop k)) (hc : cs[k]? = some c) : 0 ≤ c.2.1 ∧ (c.2.1 = a ∨ c.2.1 = l) ∧ 1 ≤ c.2.2 ∧ c.2.1 + c.2.2 ≤ n ∧ (c.2.1 = a → walkOk n (a + c.2.2) a (cs.drop (k + 1))) ∧ (¬ c.2.1 = a → walkOk n a l (cs.drop (k + 1))) := by
  obtain ⟨hk, rfl⟩ := List.getElem?_eq_some_iff.1 hc
  rw [List.drop_eq_getElem_cons hk] at h
  obtain ⟨h1, h2, h3, h4, h5⟩ := h
  refine ⟨h1, h2, h3, h4, fun e => ?_, fun e => ?_⟩
  · rwa [if_pos e] at h5
  · rwa [if_neg e] at h5
theorem walkOk_end {n a l : Int} {cs : List C3} {k : Nat} (h : walkOk n a l (cs.drop k)) (hk : cs.length ≤ k) : a = n := by
  rw [List.drop_eq_nil_of_le hk] at h
  exact h

theorem dec_shown {xs : List Int} {i : Nat} (hB : Bytes xs) (h : ¬ (dec xs i).2 = 0) (h1 : ¬ (xs.getD i 0 < 32 ∨ xs.getD i 0 = 127)) : shown (dec xs i).1 = true := by
  have hc := dec_isCh hB h
  have m1 := more_bd (xs := xs) (i + 1)
  have : 32 ≤ (dec xs i).1 ∧ ¬ (dec xs i).1 = 127 := by
    clear hc
    unfold dec dec3 at *
    generalize xs.getD i 0 = z at *
    generalize more xs (i + 1) = x at *
    generalize more xs (i + 2) = y at *
    split
    · simp only; omega
    · split
      · simp only; omega
      · split
        · simp only; omega
        · rename_i g1 g2 g3
          rw [if_neg g1, if_neg g2, if_neg g3] at h
          simp at h
  simp [shown, hc, this]

theorem shownL_shown {xs : List Int} (h : Bytes xs) (i col : Nat) : ∀ c ∈ shownL xs i col, shown c = true := by
  have hx := h.at i
  intro c hc
  have hd := dec_shown (i := i) h
  unfold shownL at hc
  generalize xs.getD i 0 = z at *
  generalize dec xs i = d at *
  have low : ∀ c : Int, 32 ≤ c → c < 127 → shown c = true := by
    intro c h1 h2
    simp [shown, isCh]; omega
  split at hc
  · rw [List.eq_of_mem_replicate hc]; exact low _ (by omega) (by omega)
  · split at hc
    · simp at hc; rcases hc with rfl | rfl
      · exact low _ (by omega) (by omega)
      · split <;> exact low _ (by omega) (by omega)
    · split at hc
      · simp [hexd] at hc
        rcases hc with rfl | rfl | rfl | rfl
        · exact low _ (by omega) (by omega)
        · split <;> exact low _ (by omega) (by omega)
        · split <;> exact low _ (by omega) (by omega)
        · exact low _ (by omega) (by omega)
      · rename_i g1 g2 g3
        simp at hc
        rw [hc]
        exact hd g3 g2

theorem cellsF_ok {xs : List Int} (h : Bytes xs) (hn : xs.length ≤ 400) : ∀ (f i : Nat) (out : List C3), i ≤ xs.length → out.all cellOk = true → (cellsF xs f i out).all cellOk = true
  | 0, i, out, hi, ho => by unfold cellsF; exact ho
  | f + 1, i, out, hi, ho => by
    unfold cellsF
    split
    · rename_i hlt
      have sn := shownN_bd h hlt
      refine cellsF_ok h hn f _ _ sn.2.2 ?_
      rw [List.all_append, ho, Bool.true_and, List.all_eq_true]
      intro c hc
      obtain ⟨x, hx, rfl⟩ := List.mem_map.1 hc
      have hs := shownL_shown h _ _ x hx
      simp [cellOk, hs]
      omega
    · exact ho
theorem cellsAll_fault {xs : List Int} (h : Bytes xs) (hn : xs.length ≤ 400) : cellsFault (cellsAll xs) = 0 := by
  have h1 := cellsAll_len h
  have h2 := cellsF_ok h hn xs.length 0 [] (by omega) rfl
  unfold cellsFault
  rw [if_neg (by omega)]
  unfold cellsAll
  rw [if_pos h2]
end Go.Proofs.Ytjnbegemdhkciaa
