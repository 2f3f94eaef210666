/-
  Bytes put behind a row that the call owns, wherever they come from. It speaks of no program.
-/
import Derived.Test.YtocophekfbhfbaaChg
import Derived.Laws.AppendOwn
import Derived.Laws.AppendOwnNone
import Derived.Laws.CopyOwn
import Derived.Laws.Cover1
import Derived.Laws.Small
namespace Go.Proofs.Ytocophekfbhfbaa
open Go.RowKit
set_option linter.unusedVariables false

theorem ints_one (k : IntKind) (ys : List Int) : ∀ u ∈ ys.map (Value.int k), u.oneCell' = true := by
  intro u hu
  obtain ⟨x, _, rfl⟩ := List.mem_map.1 hu
  rfl

theorem rd_cells {k : IntKind} {w : World} {ad : Addr} {m : Nat} {ys : List Int} (hr : Rd k w (some ad) m ys) : ∀ j u, (ys.map (Value.int k))[j]? = some u → w.cell? (ad.add j) = some u := by
  intro j u hu
  have hj : j < m := by rw [← hr.1]; have := (List.getElem?_eq_some_iff.1 hu).1; simpa using this
  obtain ⟨b, off, ha, hc⟩ := hr.at hj
  simp only [Option.some.injEq] at ha
  subst ha
  rw [Addr.add_lit, hc j hj]
  simp only [List.getElem?_map] at hu
  have hj' : j < ys.length := by rw [hr.1]; exact hj
  rw [List.getElem?_eq_getElem hj'] at hu
  rw [List.getD_eq_getElem?_getD, List.getElem?_eq_getElem hj']
  exact hu

theorem wp_append_rd {P : Program} {w : World} {o : Oper} {a : Act} {K : Act → World → Prop} {Q : Exit → Act → World → Prop} (s x : Operand) (t : TypeId)
    (ho : o.op = .call { callee := .builtin .append, args := #[s, x], argTypes := #[t, t] })
    (k : IntKind) (base : Nat) (e : TypeId) (i : TypeInfo) (bytes : Nat) (ht : P.underlying t = some (.slice e)) (hi : P.info? e = some i) (hz : i.zero = some (.int k 0))
    (hsize : i.size = 1) (hby : i.bytes = bytes) (v : Value) (n : Nat) (xs : List Int) (hs : a.eval s = v) (hown : Own k e w base v n xs)
    (sa : Option Addr) (m c : Nat) (ys : List Int) (hx : a.eval x = .slice sa m c) (hr : Rd k w sa m ys)
    (h63 : n + m ≤ maxLen) (hbytes : (n + m) * bytes ≤ 140737488355328) (hbase : base ≤ w.heap.size)
    (h : ∀ v' w', Own k e w' base v' (n + m) (xs ++ ys) → w.grownBy w' v.ownBlock → K (a.put o.dst v') w') : o.wp P a w K Q := by
  cases sa with
  | none =>
    have hm : m = 0 := by
      rcases hr.2 with h0 | ⟨b, off, ha, _⟩
      · exact h0
      · cases ha
    subst hm
    obtain rfl : ys = [] := List.eq_nil_of_length_eq_zero hr.1
    have hrun : (Builtin.append_ #[t, t] o.type #[v, .slice none 0 c]).run P w = .ok v w := by
      rcases hown.2 with ⟨rfl, rfl⟩ | ⟨g, cap, cur, rfl, _, _, hnc, _⟩
      · simp [Builtin.append_, run_underlying ht, sizeOf, typeInfo, hi, Builtin.lenOf, Builtin.firstCells]
      · simp [Builtin.append_, run_underlying ht, sizeOf, typeInfo, hi, Builtin.lenOf, Builtin.firstCells, hnc, storeCells]
    unfold Oper.wp
    simp [execOp, ho, resolve, invoke, builtin, hs, hx, hrun, Result.andThen]
    exact h v w (by simpa using hown) (World.grownBy.refl _ _)
  | some ad =>
    refine wp_append_own w s x t ho base e i (.int k 0) 1 bytes ht hi hz hsize hby rfl (by decide) v n _ hs hown ad m c (ys.map (Value.int k)) hx (by simp [hr.1]) (rd_cells hr) (ints_one k ys) h63 hbytes hbase ?_
    intro v' w' h1 h2 _
    exact h v' w' (by unfold Own; rw [List.map_append]; exact h1) h2

theorem wpList_append_rd {P : Program} {w : World} {ops : Array Oper} {rest : List Oper} {o : Oper} {a : Act} {Q : Exit → Act → World → Prop} (hgd : o.guard = none) (s x : Operand) (t : TypeId)
    (ho : o.op = .call { callee := .builtin .append, args := #[s, x], argTypes := #[t, t] })
    (k : IntKind) (base : Nat) (e : TypeId) (i : TypeInfo) (bytes : Nat) (ht : P.underlying t = some (.slice e)) (hi : P.info? e = some i) (hz : i.zero = some (.int k 0))
    (hsize : i.size = 1) (hby : i.bytes = bytes) (v : Value) (n : Nat) (xs : List Int) (hs : a.eval s = v) (hown : Own k e w base v n xs)
    (sa : Option Addr) (m c : Nat) (ys : List Int) (hx : a.eval x = .slice sa m c) (hr : Rd k w sa m ys)
    (h63 : n + m ≤ maxLen) (hbytes : (n + m) * bytes ≤ 140737488355328) (hbase : base ≤ w.heap.size)
    (h : ∀ v' w', Own k e w' base v' (n + m) (xs ++ ys) → w.grownBy w' v.ownBlock → wpList P ops Q rest (a.put o.dst v') w') : wpList P ops Q (o :: rest) a w :=
  wpList_plain hgd fun K hK => wp_append_rd s x t ho k base e i bytes ht hi hz hsize hby v n xs hs hown sa m c ys hx hr h63 hbytes hbase fun v' w' h1 h2 => hK _ _ (h v' w' h1 h2)

theorem map_splice (f : Int → Value) (L : List Int) (off : Nat) (cs : List Int) : (splice L off cs).map f = splice (L.map f) off (cs.map f) := by
  simp [splice, List.map_take, List.map_drop]

theorem take_splice {α : Type} (L : List α) (off n : Nat) (cs : List α) (h : off + cs.length ≤ n) (hn : n ≤ L.length) : (splice L off cs).take n = splice (L.take n) off cs := by
  unfold splice
  have h1 : (L.take off).length = off := by simp; omega
  rw [List.take_append, List.take_append, h1, List.take_take, List.drop_take]
  rw [List.take_of_length_le (show cs.length ≤ n - off by omega), List.take_take]
  rw [show min n off = off by omega, show min off n = off by omega, show n - off - cs.length = n - (off + cs.length) by omega]

/-- 'min' of two and of three integers. -/
theorem wpList_min2 {P : Program} {w : World} {ops : Array Oper} {rest : List Oper} {dst : Option Nat} {ty : TypeId} {pos : String} {af : Array Edge} {a : Act} {Q : Exit → Act → World → Prop} (x y : Operand) (ats : Array TypeId) (k : IntKind) (I J z : Int)
    (hx : a.eval x = .int k I) (hy : a.eval y = .int k J) (hz : min I J = z) (h : wpList P ops Q rest (a.put dst (.int k z)) w) :
    wpList P ops Q (({ dst := dst, op := .call { callee := .builtin .min, args := #[x, y], argTypes := ats }, type := ty, pos := pos, after := af, guard := none } : Oper) :: rest) a w := by
  refine wpList_plain rfl fun K hK => ?_
  have e : (if J < I then J else I) = z := by rw [← hz]; split <;> omega
  unfold Oper.wp
  simp [execOp, resolve, invoke, builtin, hx, hy, run_min_int2, e, Result.andThen]
  exact hK _ _ h

theorem wpList_min3 {P : Program} {w : World} {ops : Array Oper} {rest : List Oper} {dst : Option Nat} {ty : TypeId} {pos : String} {af : Array Edge} {a : Act} {Q : Exit → Act → World → Prop} (x y u : Operand) (ats : Array TypeId) (k : IntKind) (I J L z : Int)
    (hx : a.eval x = .int k I) (hy : a.eval y = .int k J) (hu : a.eval u = .int k L) (hz : min (min I J) L = z) (h : wpList P ops Q rest (a.put dst (.int k z)) w) :
    wpList P ops Q (({ dst := dst, op := .call { callee := .builtin .min, args := #[x, y, u], argTypes := ats }, type := ty, pos := pos, after := af, guard := none } : Oper) :: rest) a w := by
  refine wpList_plain rfl fun K hK => ?_
  have e : (if L < (if J < I then J else I) then L else (if J < I then J else I)) = z := by rw [← hz]; split <;> split <;> omega
  unfold Oper.wp
  simp [execOp, resolve, invoke, builtin, hx, hy, hu, run_min_int3, e, Result.andThen]
  exact hK _ _ h

/-- 'copy' into a row of integers that the call owns, from wherever. -/
theorem wpList_copy_rd {P : Program} {w : World} {ops : Array Oper} {rest : List Oper} {dst : Option Nat} {ty : TypeId} {pos : String} {af : Array Edge} {a : Act} {Q : Exit → Act → World → Prop} (d s : Operand) (dT sT : TypeId)
    (k : IntKind) (e : TypeId) (hu : P.underlying dT = some (.slice e)) (hsz : (P.info? e).map (·.size) = some 1)
    (dp sp : Option Addr) (dLen dCap sLen sCap : Nat) (hd : a.eval d = .slice dp dLen dCap) (hs : a.eval s = .slice sp sLen sCap)
    (base g n cap off : Nat) (cur ys : List Int) (hown : Own k e w base (.slice (some ⟨g, 0, none⟩) n cap) n cur) (hr : Rd k w sp sLen ys) (hle : sLen ≤ dLen) (hfit : off + sLen ≤ n)
    (hdp : 0 < sLen → dp = some ⟨g, off, none⟩)
    (h : ∀ w', Own k e w' base (.slice (some ⟨g, 0, none⟩) n cap) n (splice cur off ys) → w.grownBy w' (some g) → wpList P ops Q rest (a.put dst (.int .i64 sLen)) w') :
    wpList P ops Q (({ dst := dst, op := .call { callee := .builtin .copy, args := #[d, s], argTypes := #[dT, sT] }, type := ty, pos := pos, after := af, guard := none } : Oper) :: rest) a w := by
  have hgo : goInt (sLen : Int) = .int .i64 sLen := rfl
  by_cases h0 : sLen = 0
  · subst h0
    obtain rfl : ys = [] := List.eq_nil_of_length_eq_zero hr.1
    refine wpList_copy_nothing rfl d s dT sT rfl e hu hsz dp sp dLen dCap 0 sCap hd hs (by simp) ?_
    rw [show goInt 0 = .int .i64 ((0 : Nat) : Int) from hgo]
    exact h w (by simpa [splice] using hown) (World.grownBy.refl _ _)
  · have hp := hdp (by omega)
    subst hp
    obtain ⟨b, o2, rfl, _⟩ := hr.at (show 0 < sLen by omega)
    have hlen := hown.len
    rcases hown.2 with ⟨h', _⟩ | ⟨g', cap', arr, h', hbg, hg, h4, h5, h6, htake⟩
    · simp at h'
    · simp only [Value.slice.injEq, Option.some.injEq, Addr.mk.injEq, and_true, true_and] at h'
      obtain ⟨rfl, rfl⟩ := h'
      have hl2 : (ys.map (Value.int k)).length = sLen := by simpa using hr.1
      rw [Nat.mul_one] at h6 htake
      have key := wpList_copy_own (P := P) (ops := ops) (rest := rest) (o := { dst := dst, op := .call { callee := .builtin .copy, args := #[d, s], argTypes := #[dT, sT] }, type := ty, pos := pos, after := af, guard := none }) (a := a) (Q := Q) rfl d s dT sT rfl e hu hsz g off dLen dCap ⟨b, o2, none⟩ sLen sCap hd hs arr e hg (ys.map (Value.int k)) (by rw [hl2]; exact (Nat.min_eq_left hle).symm) (rd_cells hr) (by rw [hl2]; omega) (ints_one k ys)
      refine key ?_
      rw [hl2, hgo]
      refine h _ ?_ ⟨rfl, rfl, rfl, by simp [World.setRow], fun i _ hi => setRow_other w g i _ (fun e => hi (by simp [e]))⟩
      have hsl : (splice cur off ys).length = n := by rw [length_splice _ _ _ (by rw [hr.1, hlen]; exact hfit), hlen]
      refine ⟨by simpa using hsl, .inr ⟨g, cap, _, rfl, hbg, setRow_heap w g arr _ e _ hg, h4, h5, ?_, ?_⟩⟩
      · have := length_splice arr.toList off (ys.map (Value.int k)) (by rw [hl2]; simp; omega)
        unfold splice at this
        rw [hl2] at this
        simpa [h6] using this
      · rw [Nat.mul_one, map_splice, ← htake, ← take_splice _ _ _ _ (by rw [hl2]; exact hfit) (by simp; omega)]
        unfold splice
        rw [hl2]
end Go.Proofs.Ytocophekfbhfbaa
