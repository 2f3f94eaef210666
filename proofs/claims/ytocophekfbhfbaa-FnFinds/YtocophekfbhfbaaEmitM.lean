/-
  Chapter 7: the program of a tree: plain mathematics; an instruction put behind a row. It speaks of no program but of its types.
-/
import Derived.Test.YtocophekfbhfbaaInstM
import Derived.Laws.AppendOwn
namespace Go.Proofs.Ytocophekfbhfbaa
open Go.RowKit
set_option linter.unusedVariables false
set_option linter.unusedSimpArgs false

/-- An instruction without a node. -/
def nI (o x y : Int) : In := ⟨o, 0, 0, ⟨#[]⟩, 0, 0, x, y⟩

/-- The program of the tree at a place, from 'here' on. -/
def cod (ns : List Nd) : Nat → Nat → Nat → List In
  | 0, _, _ => []
  | f + 1, here, p =>
    match ns[p]? with
    | none => []
    | some n =>
      if n.k = 1 then [nI 3 ((here : Int) + 1) 0]
      else if n.k = 6 then [nI 4 ((here : Int) + 1) 0]
      else if n.k = 7 then [nI 5 ((here : Int) + 1) 0]
      else if n.k = 11 then cod ns f here n.l.toNat ++ cod ns f (here + (cod ns f here n.l.toNat).length) n.r.toNat
      else if n.k = 12 then
        nI 2 ((here : Int) + 1) (here + 1 + (cod ns f (here + 1) n.l.toNat).length + 1 : Nat) :: (cod ns f (here + 1) n.l.toNat ++
          (nI 3 (here + 1 + (cod ns f (here + 1) n.l.toNat).length + 1 + (cod ns f (here + 1 + (cod ns f (here + 1) n.l.toNat).length + 1) n.r.toNat).length : Nat) 0 ::
            cod ns f (here + 1 + (cod ns f (here + 1) n.l.toNat).length + 1) n.r.toNat))
      else if n.k = 8 then nI 2 ((here : Int) + 1) (here + 1 + (cod ns f (here + 1) n.l.toNat).length + 1 : Nat) :: (cod ns f (here + 1) n.l.toNat ++ [nI 3 here 0])
      else if n.k = 10 then nI 2 ((here : Int) + 1) (here + 1 + (cod ns f (here + 1) n.l.toNat).length : Nat) :: cod ns f (here + 1) n.l.toNat
      else if n.k = 9 then cod ns f here n.l.toNat ++ [nI 2 here ((here + (cod ns f here n.l.toNat).length : Nat) + 1)]
      else [⟨1, n.k, n.c, n.s, n.l, n.r, (here : Int) + 1, 0⟩]

section
variable {ns : List Nd} {f here p : Nat} {n : Nd}
theorem cod_1 (h : ns[p]? = some n) (k : n.k = 1) : cod ns (f + 1) here p = [nI 3 ((here : Int) + 1) 0] := by rw [cod, h]; simp only; rw [if_pos k]
theorem cod_6 (h : ns[p]? = some n) (k : n.k = 6) : cod ns (f + 1) here p = [nI 4 ((here : Int) + 1) 0] := by rw [cod, h]; simp only; rw [if_neg (by omega), if_pos k]
theorem cod_7 (h : ns[p]? = some n) (k : n.k = 7) : cod ns (f + 1) here p = [nI 5 ((here : Int) + 1) 0] := by rw [cod, h]; simp only; rw [if_neg (by omega), if_neg (by omega), if_pos k]
theorem cod_11 (h : ns[p]? = some n) (k : n.k = 11) : cod ns (f + 1) here p = cod ns f here n.l.toNat ++ cod ns f (here + (cod ns f here n.l.toNat).length) n.r.toNat := by
  rw [cod, h]; simp only; rw [if_neg (by omega), if_neg (by omega), if_neg (by omega), if_pos k]
theorem cod_12 (h : ns[p]? = some n) (k : n.k = 12) : cod ns (f + 1) here p =
        nI 2 ((here : Int) + 1) (here + 1 + (cod ns f (here + 1) n.l.toNat).length + 1 : Nat) :: (cod ns f (here + 1) n.l.toNat ++
          (nI 3 (here + 1 + (cod ns f (here + 1) n.l.toNat).length + 1 + (cod ns f (here + 1 + (cod ns f (here + 1) n.l.toNat).length + 1) n.r.toNat).length : Nat) 0 ::
            cod ns f (here + 1 + (cod ns f (here + 1) n.l.toNat).length + 1) n.r.toNat)) := by
  rw [cod, h]; simp only; rw [if_neg (by omega), if_neg (by omega), if_neg (by omega), if_neg (by omega), if_pos k]
theorem cod_8 (h : ns[p]? = some n) (k : n.k = 8) : cod ns (f + 1) here p = nI 2 ((here : Int) + 1) (here + 1 + (cod ns f (here + 1) n.l.toNat).length + 1 : Nat) :: (cod ns f (here + 1) n.l.toNat ++ [nI 3 here 0]) := by
  rw [cod, h]; simp only; rw [if_neg (by omega), if_neg (by omega), if_neg (by omega), if_neg (by omega), if_neg (by omega), if_pos k]
theorem cod_10 (h : ns[p]? = some n) (k : n.k = 10) : cod ns (f + 1) here p = nI 2 ((here : Int) + 1) (here + 1 + (cod ns f (here + 1) n.l.toNat).length : Nat) :: cod ns f (here + 1) n.l.toNat := by
  rw [cod, h]; simp only; rw [if_neg (by omega), if_neg (by omega), if_neg (by omega), if_neg (by omega), if_neg (by omega), if_neg (by omega), if_pos k]
theorem cod_9 (h : ns[p]? = some n) (k : n.k = 9) : cod ns (f + 1) here p = cod ns f here n.l.toNat ++ [nI 2 here ((here + (cod ns f here n.l.toNat).length : Nat) + 1)] := by
  rw [cod, h]; simp only; rw [if_neg (by omega), if_neg (by omega), if_neg (by omega), if_neg (by omega), if_neg (by omega), if_neg (by omega), if_neg (by omega), if_pos k]
theorem cod_b (h : ns[p]? = some n) (k : 2 ≤ n.k ∧ n.k ≤ 5) : cod ns (f + 1) here p = [⟨1, n.k, n.c, n.s, n.l, n.r, (here : Int) + 1, 0⟩] := by
  rw [cod, h]; simp only; rw [if_neg (by omega), if_neg (by omega), if_neg (by omega), if_neg (by omega), if_neg (by omega), if_neg (by omega), if_neg (by omega), if_neg (by omega)]
end

/-- How long it is at most. -/
theorem cod_len {ns : List Nd} {n : Nat} {bs : List Int} (hb : Beg ns n bs) (hn : n = ns.length) : ∀ (f here p : Nat), p < n → p < f → ((cod ns f here p).length : Int) + 2 * bs.getD p 0 ≤ 2 * ((p : Int) + 1)
  | 0, here, p, hp, hf => by omega
  | f + 1, here, p, hp, hf => by
    have hx : ns[p]? = some ns[p] := List.getElem?_eq_getElem (by omega)
    generalize ns[p] = m at hx
    have hF := (hb.at_ p m hp hx).1.1
    have hbd := hb.bd (by omega) hp
    have hk : m.k ≤ 7 ∨ (8 ≤ m.k ∧ m.k ≤ 10) ∨ m.k = 11 ∨ m.k = 12 := by omega
    rcases hk with hk | hk | hk | hk
    · have hl := hb.leaf hp hx hk
      have hone : (cod ns (f + 1) here p).length = 1 := by
        have hk2 : m.k = 1 ∨ m.k = 6 ∨ m.k = 7 ∨ (2 ≤ m.k ∧ m.k ≤ 5) := by omega
        rcases hk2 with h | h | h | h
        · rw [cod_1 hx h]; rfl
        · rw [cod_6 hx h]; rfl
        · rw [cod_7 hx h]; rfl
        · rw [cod_b hx h]; rfl
      rw [hone, hl]
      omega
    · obtain ⟨h0, hl, hbl⟩ := hb.one hp hx hk
      have hlt : m.l.toNat = p - 1 := by omega
      have i1 := fun here => cod_len hb hn f here m.l.toNat (by omega) (by omega)
      rw [hbl] at i1
      rcases (show m.k = 8 ∨ m.k = 9 ∨ m.k = 10 by omega) with h | h | h
      · rw [cod_8 hx h]
        have := i1 (here + 1)
        simp only [List.length_cons, List.length_append, List.length_nil]
        omega
      · rw [cod_9 hx h]
        have := i1 here
        simp only [List.length_cons, List.length_append, List.length_nil]
        omega
      · rw [cod_10 hx h]
        have := i1 (here + 1)
        simp only [List.length_cons]
        omega
    · obtain ⟨h0, hr, hb1, hl, hb2, hbl⟩ := hb.two hp hx (.inl hk)
      have e1 : m.r.toNat = p - 1 := by omega
      have i1 := cod_len hb hn f here m.l.toNat (by omega) (by omega)
      have i2 := cod_len hb hn f (here + (cod ns f here m.l.toNat).length) m.r.toNat (by omega) (by omega)
      rw [hbl] at i1
      rw [cod_11 hx hk, List.length_append]
      rw [e1] at i2 ⊢
      omega
    · obtain ⟨h0, hr, hb1, hl, hb2, hbl⟩ := hb.two hp hx (.inr hk)
      have e1 : m.r.toNat = p - 1 := by omega
      have i1 := cod_len hb hn f (here + 1) m.l.toNat (by omega) (by omega)
      have i2 := cod_len hb hn f (here + 1 + (cod ns f (here + 1) m.l.toNat).length + 1) m.r.toNat (by omega) (by omega)
      rw [hbl] at i1
      rw [cod_12 hx hk]
      simp only [List.length_cons, List.length_append]
      rw [e1] at i2 ⊢
      omega

theorem inE_one (i : In) : ∀ u ∈ inE i, u.oneCell' = true := by
  intro u hu
  simp [inE] at hu
  rcases hu with rfl | rfl | rfl | rfl | rfl | rfl | rfl | rfl <;> rfl

theorem inE_snoc (xs : List In) (i : In) : (xs ++ [i]).flatMap inE = xs.flatMap inE ++ inE i := by simp

theorem infoInE : (Try.prog.info? 252).map (fun i => (i.zero, i.size, i.bytes)) = some (some (.agg #[.int .i64 0, .int .i64 0, .int .i64 0, .string ⟨#[]⟩, .int .i64 0, .int .i64 0, .int .i64 0, .int .i64 0]), 8, 72) := by kernel_rfl

/-- An instruction is put behind a row. -/
theorem wp_appIn {w : World} {o : Oper} {a : Act} {K : Act → World → Prop} {Q : Exit → Act → World → Prop} (s x : Operand)
    (ho : o.op = .call { callee := .builtin .append, args := #[s, x], argTypes := #[59, 59] }) (base : Nat) (v : Value) (n : Nat) (xs : List In) (hs : a.eval s = v) (hown : OwnR inE 8 252 w base v n xs)
    (b c : Nat) (i : In) (hx : a.eval x = .slice (some ⟨b, 0, none⟩) 1 c) (hc : ∀ f u, (inE i)[f]? = some u → w.cell? ⟨b, f, none⟩ = some u) (hn : n ≤ 1000000) (hbase : base ≤ w.heap.size)
    (h : ∀ v' w', OwnR inE 8 252 w' base v' (n + 1) (xs ++ [i]) → w.grownBy w' v.ownBlock → K (a.put o.dst v') w') : o.wp Try.prog a w K Q := by
  obtain ⟨i0, hi, hz0, hz1, hz2⟩ := info_parts infoInE
  refine wp_append_own w s x 59 ho base 252 i0 _ 8 72 Try.underlying59 hi hz0 hz1 hz2 rfl (by decide) v n (xs.flatMap inE) hs hown.2 ⟨b, 0, none⟩ 1 c (inE i) hx rfl (fun j u hu => by rw [Addr.add_lit, Nat.zero_add]; exact hc j u hu) (inE_one i) (by unfold maxLen; omega) (by omega) hbase ?_
  intro v' w' h1 h2 _
  rw [← inE_snoc] at h1
  exact h v' w' ⟨by rw [List.length_append, hown.1]; rfl, h1⟩ h2

theorem wpList_appIn {w : World} {ops : Array Oper} {rest : List Oper} {o : Oper} {a : Act} {Q : Exit → Act → World → Prop} (hgd : o.guard = none) (s x : Operand)
    (ho : o.op = .call { callee := .builtin .append, args := #[s, x], argTypes := #[59, 59] }) (base : Nat) (v : Value) (n : Nat) (xs : List In) (hs : a.eval s = v) (hown : OwnR inE 8 252 w base v n xs)
    (b c : Nat) (i : In) (hx : a.eval x = .slice (some ⟨b, 0, none⟩) 1 c) (hc : ∀ f u, (inE i)[f]? = some u → w.cell? ⟨b, f, none⟩ = some u) (hn : n ≤ 1000000) (hbase : base ≤ w.heap.size)
    (h : ∀ v' w', OwnR inE 8 252 w' base v' (n + 1) (xs ++ [i]) → w.grownBy w' v.ownBlock → wpList Try.prog ops Q rest (a.put o.dst v') w') : wpList Try.prog ops Q (o :: rest) a w :=
  wpList_plain hgd fun _ hK => wp_appIn s x ho base v n xs hs hown b c i hx hc hn hbase fun v' w' h1 h2 => hK _ _ (h v' w' h1 h2)

/-- The cells of an instruction just laid. -/
theorem cellsI (w : World) (i : In) (e : TypeId) : ∀ f u, (inE i)[f]? = some u → (w.alloc (.cells #[.int .i64 i.o, .int .i64 i.k, .int .i64 i.c, .string i.s, .int .i64 i.l, .int .i64 i.r, .int .i64 i.x, .int .i64 i.y] e)).cell? ⟨w.heap.size, f, none⟩ = some u := by
  intro f u hu
  have hh := cells_new w #[.int .i64 i.o, .int .i64 i.k, .int .i64 i.c, .string i.s, .int .i64 i.l, .int .i64 i.r, .int .i64 i.x, .int .i64 i.y] e f u (by simpa [inE] using hu)
  rw [Addr.add_lit, Nat.zero_add] at hh
  exact hh
end Go.Proofs.Ytocophekfbhfbaa
