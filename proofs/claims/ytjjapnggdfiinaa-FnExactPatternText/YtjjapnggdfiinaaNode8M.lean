/-
  Chapter 5, plain mathematics: the text of a pattern. It speaks of no program.
-/
import Derived.Test.YtjjapnggdfiinaaNode7M
import Derived.Test.YtjjapnggdfiinaaText0
namespace Go.Proofs.Ytjjapnggdfiinaa
open Go.RowKit
set_option linter.unusedVariables false
set_option linter.unusedSimpArgs false

def mkS (l : List UInt8) : ByteArray := ⟨l.toArray⟩
theorem mkS_app (a b : List UInt8) : mkS a ++ mkS b = mkS (a ++ b) := by
  unfold mkS
  rw [ByteArray.mk_append_mk]
theorem mkS_size (l : List UInt8) : (mkS l).size = l.length := by
  show l.toArray.size = _
  simp

theorem strOf_mk (l : List UInt8) : ∀ acc : List UInt8, (l.map fun b => (b.toNat : Int)).foldl (fun r n => r.push (UInt8.ofNat n.toNat)) (mkS acc) = mkS (acc ++ l) := by
  induction l with
  | nil => intro acc; simp
  | cons b l ih =>
    intro acc
    have hb : (mkS acc).push (UInt8.ofNat ((b.toNat : Int)).toNat) = mkS (acc ++ [b]) := by
      simp [mkS, ByteArray.push]
    rw [List.map_cons, List.foldl_cons, hb, ih]
    simp
theorem strOf_map (l : List UInt8) : strOf (l.map fun b => (b.toNat : Int)) = mkS l := by
  have h := strOf_mk l []
  rw [List.nil_append] at h
  exact h

/-- Bytes with a backslash ahead of the signs. -/
def slL (signs : List UInt8) (l : List UInt8) : List UInt8 := l.flatMap fun b => if inL signs b.toNat then [92, b] else [b]
theorem slL_succ {signs l : List UInt8} {k : Nat} (h : k < l.length) : slL signs (l.take (k + 1)) = slL signs (l.take k) ++ (if inL signs (l.getD k 0).toNat then [92, l.getD k 0] else [l.getD k 0]) := by
  rw [List.take_add_one, List.getElem?_eq_getElem h, slL, List.flatMap_append]
  simp [slL, List.getD_eq_getElem?_getD, h]
theorem slL_len (signs l : List UInt8) : (slL signs l).length ≤ 2 * l.length := by
  induction l with
  | nil => simp [slL]
  | cons b l ih =>
    simp only [slL, List.flatMap_cons, List.length_append, List.length_cons] at ih ⊢
    split
    · simp only [List.length_cons, List.length_nil]; omega
    · simp only [List.length_cons, List.length_nil]; omega

def slash (signs : ByteArray) (s : ByteArray) : ByteArray := mkS (slL signs.data.toList s.data.toList)
theorem slash_size (signs s : ByteArray) : (slash signs s).size ≤ 2 * s.size := by
  have h := slL_len signs.data.toList s.data.toList
  rw [slash, mkS_size]
  rw [Array.length_toList] at h
  exact h

def sg12 : ByteArray := ⟨#[92, 40, 41, 91, 93, 124, 42, 43, 63, 46, 94, 36]⟩
def sg3 : ByteArray := ⟨#[92, 93, 94]⟩

def wantsB (up kind : Int) (right : Bool) : Bool :=
  if up = 12 then decide (kind = 12) && right else if up = 11 then decide (kind = 1) || decide (kind = 12) || (decide (kind = 11) && right) else decide (kind = 1) || decide (kind = 12) || decide (kind = 11)

def parT (t : ByteArray) : ByteArray := ⟨#[40]⟩ ++ t ++ ⟨#[41]⟩
def wrapT (up : Int) (right : Bool) (c : ByteArray × Int) : ByteArray := if wantsB up c.2 right then parT c.1 else c.1

def charT (c : Int) : ByteArray := slash sg12 (strOf [c])

/-- The text of a node, out of the texts of those that it is of. -/
def txtF (x : Nd) (g : Int → ByteArray × Int) : ByteArray × Int :=
  (if x.k = 2 then charT x.c else if x.k = 3 then ⟨#[46]⟩ else if x.k = 4 then ⟨#[91]⟩ ++ slash sg3 x.s ++ ⟨#[93]⟩ else if x.k = 5 then ⟨#[91, 94]⟩ ++ slash sg3 x.s ++ ⟨#[93]⟩
    else if x.k = 6 then ⟨#[94]⟩ else if x.k = 7 then ⟨#[36]⟩
    else if x.k = 8 then wrapT 8 false (g x.l) ++ ⟨#[42]⟩ else if x.k = 9 then wrapT 9 false (g x.l) ++ ⟨#[43]⟩ else if x.k = 10 then wrapT 10 false (g x.l) ++ ⟨#[63]⟩
    else if x.k = 11 then wrapT 11 false (g x.l) ++ wrapT 11 true (g x.r)
    else if x.k = 12 then wrapT 12 false (g x.l) ++ ⟨#[124]⟩ ++ wrapT 12 true (g x.r)
    else ⟨#[]⟩, x.k)

theorem txtF_1 {x : Nd} {g : Int → ByteArray × Int} (h : x.k = 1) : (txtF x g).1 = ⟨#[]⟩ := by
  unfold txtF
  simp only
  rw [if_neg (by omega), if_neg (by omega), if_neg (by omega), if_neg (by omega), if_neg (by omega), if_neg (by omega), if_neg (by omega), if_neg (by omega), if_neg (by omega), if_neg (by omega), if_neg (by omega)]

theorem txtF_2 {x : Nd} {g : Int → ByteArray × Int} (h : x.k = 2) : (txtF x g).1 = charT x.c := by
  unfold txtF
  simp only
  rw [if_pos h]

theorem txtF_3 {x : Nd} {g : Int → ByteArray × Int} (h : x.k = 3) : (txtF x g).1 = ⟨#[46]⟩ := by
  unfold txtF
  simp only
  rw [if_neg (by omega), if_pos h]

theorem txtF_4 {x : Nd} {g : Int → ByteArray × Int} (h : x.k = 4) : (txtF x g).1 = ⟨#[91]⟩ ++ slash sg3 x.s ++ ⟨#[93]⟩ := by
  unfold txtF
  simp only
  rw [if_neg (by omega), if_neg (by omega), if_pos h]

theorem txtF_5 {x : Nd} {g : Int → ByteArray × Int} (h : x.k = 5) : (txtF x g).1 = ⟨#[91, 94]⟩ ++ slash sg3 x.s ++ ⟨#[93]⟩ := by
  unfold txtF
  simp only
  rw [if_neg (by omega), if_neg (by omega), if_neg (by omega), if_pos h]

theorem txtF_6 {x : Nd} {g : Int → ByteArray × Int} (h : x.k = 6) : (txtF x g).1 = ⟨#[94]⟩ := by
  unfold txtF
  simp only
  rw [if_neg (by omega), if_neg (by omega), if_neg (by omega), if_neg (by omega), if_pos h]

theorem txtF_7 {x : Nd} {g : Int → ByteArray × Int} (h : x.k = 7) : (txtF x g).1 = ⟨#[36]⟩ := by
  unfold txtF
  simp only
  rw [if_neg (by omega), if_neg (by omega), if_neg (by omega), if_neg (by omega), if_neg (by omega), if_pos h]

theorem txtF_8 {x : Nd} {g : Int → ByteArray × Int} (h : x.k = 8) : (txtF x g).1 = wrapT 8 false (g x.l) ++ ⟨#[42]⟩ := by
  unfold txtF
  simp only
  rw [if_neg (by omega), if_neg (by omega), if_neg (by omega), if_neg (by omega), if_neg (by omega), if_neg (by omega), if_pos h]

theorem txtF_9 {x : Nd} {g : Int → ByteArray × Int} (h : x.k = 9) : (txtF x g).1 = wrapT 9 false (g x.l) ++ ⟨#[43]⟩ := by
  unfold txtF
  simp only
  rw [if_neg (by omega), if_neg (by omega), if_neg (by omega), if_neg (by omega), if_neg (by omega), if_neg (by omega), if_neg (by omega), if_pos h]

theorem txtF_10 {x : Nd} {g : Int → ByteArray × Int} (h : x.k = 10) : (txtF x g).1 = wrapT 10 false (g x.l) ++ ⟨#[63]⟩ := by
  unfold txtF
  simp only
  rw [if_neg (by omega), if_neg (by omega), if_neg (by omega), if_neg (by omega), if_neg (by omega), if_neg (by omega), if_neg (by omega), if_neg (by omega), if_pos h]

theorem txtF_11 {x : Nd} {g : Int → ByteArray × Int} (h : x.k = 11) : (txtF x g).1 = wrapT 11 false (g x.l) ++ wrapT 11 true (g x.r) := by
  unfold txtF
  simp only
  rw [if_neg (by omega), if_neg (by omega), if_neg (by omega), if_neg (by omega), if_neg (by omega), if_neg (by omega), if_neg (by omega), if_neg (by omega), if_neg (by omega), if_pos h]

theorem txtF_12 {x : Nd} {g : Int → ByteArray × Int} (h : x.k = 12) : (txtF x g).1 = wrapT 12 false (g x.l) ++ ⟨#[124]⟩ ++ wrapT 12 true (g x.r) := by
  unfold txtF
  simp only
  rw [if_neg (by omega), if_neg (by omega), if_neg (by omega), if_neg (by omega), if_neg (by omega), if_neg (by omega), if_neg (by omega), if_neg (by omega), if_neg (by omega), if_neg (by omega), if_pos h]

theorem txtF_own : Own2 txtF := by
  intro x g g' h1 h2
  unfold txtF
  by_cases h8 : 8 ≤ x.k
  · rw [h1 h8]
    by_cases h11 : 11 ≤ x.k
    · rw [h2 h11]
    · simp only [show ¬ x.k = 11 by omega, show ¬ x.k = 12 by omega, if_false]
  · simp only [show ¬ x.k = 8 by omega, show ¬ x.k = 9 by omega, show ¬ x.k = 10 by omega, show ¬ x.k = 11 by omega, show ¬ x.k = 12 by omega, if_false]

def txtV (ns : List Nd) (i : Nat) : ByteArray × Int := (valsOf txtF (eB, 0) ns).getD i (eB, 0)
theorem txtV_at {ns : List Nd} {bs : List Int} (hb : Beg ns ns.length bs) {i : Nat} {x : Nd} (hx : ns[i]? = some x) : txtV ns i = txtF x (fun j => txtV ns j.toNat) := by
  have hn := (List.getElem?_eq_some_iff.1 hx).1
  have h := valsOf_at (d := (eB, 0)) txtF_own hb hx hn (Nat.le_refl _)
  rw [List.take_length] at h
  exact h
theorem txtV_kind {ns : List Nd} {bs : List Int} (hb : Beg ns ns.length bs) {i : Nat} {x : Nd} (hx : ns[i]? = some x) : (txtV ns i).2 = x.k := by
  rw [txtV_at hb hx]
  rfl

theorem parT_size (t : ByteArray) : (parT t).size = t.size + 2 := by
  unfold parT
  rw [ByteArray.size_append', ByteArray.size_append']
  show 1 + t.size + 1 = _
  omega
theorem wrapT_size (up : Int) (right : Bool) (c : ByteArray × Int) : (wrapT up right c).size ≤ c.1.size + 2 := by
  unfold wrapT
  split
  · rw [parT_size]; omega
  · omega

theorem charT_size (c : Int) : (charT c).size ≤ 2 := by
  have h := slash_size sg12 (strOf [c])
  exact h

/-- A text is not too long. -/
theorem txtV_size {ns : List Nd} {bs : List Int} (hb : Beg ns ns.length bs) (i : Nat) (hi : i < ns.length) : (txtV ns i).1.size ≤ 50 * 3 ^ i := by
  induction i using Nat.strongRecOn with
  | ind i ih =>
    have hx : ns[i]? = some ns[i] := List.getElem?_eq_getElem hi
    generalize ns[i] = x at hx
    have hat := hb.at_ i x hi hx
    have hk := hat.1.1
    have h1p : 1 ≤ 3 ^ i := Nat.one_le_pow _ _ (by omega)
    have hpow : ∀ j, j < i → 50 * 3 ^ j * 3 ≤ 50 * 3 ^ i := fun j hj => by
      have : 3 ^ (j + 1) ≤ 3 ^ i := Nat.pow_le_pow_right (by omega) (by omega)
      rw [Nat.pow_succ] at this
      omega
    have hs : x.k = 4 ∨ x.k = 5 → x.s.size ≤ 20 := fun h => by
      have := hat.2.1
      unfold rangeB at this
      rw [if_neg (by omega), if_pos h] at this
      unfold setB at this
      simp at this
      omega
    have hsl := slash_size sg3 x.s
    have L : 8 ≤ x.k → (txtV ns x.l.toNat).1.size * 3 ≤ 50 * 3 ^ i := fun h8 => by
      have hl : x.l.toNat < i := by
        by_cases h2 : x.k = 11 ∨ x.k = 12
        · have := hb.two hi hx h2; omega
        · have := hb.one hi hx (by omega); omega
      have a1 := ih _ hl (by omega)
      have a2 := hpow _ hl
      omega
    have R : 11 ≤ x.k → (txtV ns x.r.toNat).1.size * 3 ≤ 50 * 3 ^ i := fun h8 => by
      have hl : x.r.toNat < i := by have := hb.two hi hx (by omega); omega
      have a1 := ih _ hl (by omega)
      have a2 := hpow _ hl
      omega
    have hpos : 8 ≤ x.k → 150 ≤ 50 * 3 ^ i := fun h8 => by
      have hi0 : 0 < i := by
        by_cases h2 : x.k = 11 ∨ x.k = 12
        · have := hb.two hi hx h2; omega
        · have := hb.one hi hx (by omega); omega
      have : 3 ^ 1 ≤ 3 ^ i := Nat.pow_le_pow_right (by omega) (by omega)
      omega
    rw [txtV_at hb hx]
    have hB : 50 ≤ 50 * 3 ^ i := by omega
    generalize 50 * 3 ^ i = B at *
    have cs := charT_size x.c
    have e1 : ∀ a : UInt8, (ByteArray.mk #[a]).size = 1 := fun _ => rfl
    have e2 : ∀ a b : UInt8, (ByteArray.mk #[a, b]).size = 2 := fun _ _ => rfl
    have e0 : (ByteArray.mk #[]).size = 0 := rfl
    unfold txtF
    simp only
    have w8 := wrapT_size 8 false (txtV ns x.l.toNat)
    have w9 := wrapT_size 9 false (txtV ns x.l.toNat)
    have w10 := wrapT_size 10 false (txtV ns x.l.toNat)
    have w11 := wrapT_size 11 false (txtV ns x.l.toNat)
    have w12 := wrapT_size 12 false (txtV ns x.l.toNat)
    have v11 := wrapT_size 11 true (txtV ns x.r.toNat)
    have v12 := wrapT_size 12 true (txtV ns x.r.toNat)
    have hk12 : x.k = 1 ∨ x.k = 2 ∨ x.k = 3 ∨ x.k = 4 ∨ x.k = 5 ∨ x.k = 6 ∨ x.k = 7 ∨ x.k = 8 ∨ x.k = 9 ∨ x.k = 10 ∨ x.k = 11 ∨ x.k = 12 := by omega
    rcases hk12 with h | h | h | h | h | h | h | h | h | h | h | h
    · rw [if_neg (by omega), if_neg (by omega), if_neg (by omega), if_neg (by omega), if_neg (by omega), if_neg (by omega), if_neg (by omega), if_neg (by omega), if_neg (by omega), if_neg (by omega), if_neg (by omega)]
      first | omega | (simp only [ByteArray.size_append', e1, e2, e0]; omega)
    · rw [if_pos h]
      first | omega | (simp only [ByteArray.size_append', e1, e2, e0]; omega)
    · rw [if_neg (by omega), if_pos h]
      first | omega | (simp only [ByteArray.size_append', e1, e2, e0]; omega)
    · rw [if_neg (by omega), if_neg (by omega), if_pos h]
      first | omega | (simp only [ByteArray.size_append', e1, e2, e0]; omega)
    · rw [if_neg (by omega), if_neg (by omega), if_neg (by omega), if_pos h]
      first | omega | (simp only [ByteArray.size_append', e1, e2, e0]; omega)
    · rw [if_neg (by omega), if_neg (by omega), if_neg (by omega), if_neg (by omega), if_pos h]
      first | omega | (simp only [ByteArray.size_append', e1, e2, e0]; omega)
    · rw [if_neg (by omega), if_neg (by omega), if_neg (by omega), if_neg (by omega), if_neg (by omega), if_pos h]
      first | omega | (simp only [ByteArray.size_append', e1, e2, e0]; omega)
    · rw [if_neg (by omega), if_neg (by omega), if_neg (by omega), if_neg (by omega), if_neg (by omega), if_neg (by omega), if_pos h]
      first | omega | (simp only [ByteArray.size_append', e1, e2, e0]; omega)
    · rw [if_neg (by omega), if_neg (by omega), if_neg (by omega), if_neg (by omega), if_neg (by omega), if_neg (by omega), if_neg (by omega), if_pos h]
      first | omega | (simp only [ByteArray.size_append', e1, e2, e0]; omega)
    · rw [if_neg (by omega), if_neg (by omega), if_neg (by omega), if_neg (by omega), if_neg (by omega), if_neg (by omega), if_neg (by omega), if_neg (by omega), if_pos h]
      first | omega | (simp only [ByteArray.size_append', e1, e2, e0]; omega)
    · rw [if_neg (by omega), if_neg (by omega), if_neg (by omega), if_neg (by omega), if_neg (by omega), if_neg (by omega), if_neg (by omega), if_neg (by omega), if_neg (by omega), if_pos h]
      first | omega | (simp only [ByteArray.size_append', e1, e2, e0]; omega)
    · rw [if_neg (by omega), if_neg (by omega), if_neg (by omega), if_neg (by omega), if_neg (by omega), if_neg (by omega), if_neg (by omega), if_neg (by omega), if_neg (by omega), if_neg (by omega), if_pos h]
      first | omega | (simp only [ByteArray.size_append', e1, e2, e0]; omega)

/-- What PatternText answers. -/
def ptText (ns : List Nd) : ByteArray := if nodesFault ns ≠ 0 then ⟨#[]⟩ else if 60 < (txtV ns (ns.length - 1)).1.size then ⟨#[]⟩ else (txtV ns (ns.length - 1)).1
def ptCode (ns : List Nd) : Int := if nodesFault ns ≠ 0 then nodesFault ns else if 60 < (txtV ns (ns.length - 1)).1.size then 2 else 0
end Go.Proofs.Ytjjapnggdfiinaa
