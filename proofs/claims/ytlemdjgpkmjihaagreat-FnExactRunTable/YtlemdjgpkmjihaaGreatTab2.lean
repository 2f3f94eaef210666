/-
  Chapter 8: the fault of a table, of the program.
-/
import Derived.Test.YtlemdjgpkmjihaaGreatTabA
import Derived.Test.YtlemdjgpkmjihaaGreatHlpL
import Derived.Test.YtlemdjgpkmjihaaGreatProg2
import Derived.Test.YtlemdjgpkmjihaaGreatSetM
import Derived.Test.YtlemdjgpkmjihaaGreatBox
import Derived.Deep.WholeRow
import Derived.Laws.CopyOwn
namespace Go.Proofs.YtlemdjgpkmjihaaGreat
open Go.RowKit
set_option linter.unusedVariables false
set_option linter.unusedSimpArgs false

theorem fold_at (xs : List Int) : ∀ (b : List Bool) (q : Nat), q < b.length → ((xs.foldl (fun b x => b.set x.toNat true) b).getD q false = true ↔ b.getD q false = true ∨ ∃ x ∈ xs, x.toNat = q) := by
  have same : ∀ {bs : List Bool} {p : Nat}, p < bs.length → (bs.set p true).getD p false = true := by
    intro bs p h
    simp [List.getD_eq_getElem?_getD, h]
  have other : ∀ {bs : List Bool} {p q : Nat}, q ≠ p → (bs.set p true).getD q false = bs.getD q false := by
    intro bs p q h
    simp [List.getD_eq_getElem?_getD, List.getElem?_set_ne (Ne.symm h)]
  induction xs with
  | nil => intro b q hq; simp
  | cons a xs ih =>
    intro b q hq
    rw [List.foldl_cons, ih _ q (by simpa using hq)]
    by_cases e : q = a.toNat
    · subst e
      rw [same hq]
      simp
    · rw [other e]
      constructor
      · rintro (h | ⟨x, hx, rfl⟩)
        · exact .inl h
        · exact .inr ⟨x, by simp [hx], rfl⟩
      · rintro (h | ⟨x, hx, rfl⟩)
        · exact .inl h
        · rcases List.mem_cons.1 hx with rfl | hx
          · exact absurd rfl e
          · exact .inr ⟨x, hx, rfl⟩
theorem none_at (n q : Nat) : (List.replicate n false).getD q false = false := by
  by_cases hq : q < n <;> simp [List.getD_eq_getElem?_getD, hq]
theorem Blk.boolA {W : World} {B : Nat} {bs : List Bool} {t : TypeId} (h : Blk W B (boolsA bs) t) {j : Nat} (hj : j < bs.length) : W.cell? ⟨B, j, none⟩ = some (.bool (bs.getD j false)) := by
  rw [h.cell, boolsA_at bs j hj]
theorem Blk.markA {W : World} {B : Nat} {bs : List Bool} {t : TypeId} (h : Blk W B (boolsA bs) t) (j : Nat) (b : Bool) : Blk (W.setCell ⟨B, j, none⟩ (.bool b)) B (boolsA (bs.set j b)) t := by
  have := h.set (i := j) (.bool b)
  rw [boolsA_set] at this
  exact this

/-- The bytes that arcs have. -/
def seenB (az : List L2) : List Bool := (az.map (·.1)).foldl (fun b x => b.set x.toNat true) (List.replicate 256 false)
theorem seenB_len (az : List L2) : (seenB az).length = 256 := by
  have h : ∀ (xs : List Int) (b : List Bool), (xs.foldl (fun b x => b.set x.toNat true) b).length = b.length := by
    intro xs
    induction xs with
    | nil => intro b; rfl
    | cons x xs ih => intro b; rw [List.foldl_cons, ih]; simp
  rw [seenB, h, List.length_replicate]
theorem seenB_step {az : List L2} {k : Nat} {c : L2} (h : az[k]? = some c) : (seenB (az.take k)).set c.1.toNat true = seenB (az.take (k + 1)) := by
  obtain ⟨hk, e⟩ := List.getElem?_eq_some_iff.1 h
  unfold seenB
  rw [List.take_succ_eq_append_getElem hk, List.map_append, List.foldl_append, e]
  rfl
theorem seenB_mem {az : List L2} (hz : ∀ a ∈ az, 0 ≤ a.1 ∧ a.1 ≤ 255) {x : Nat} (hx : x < 256) : (seenB az).getD x false = true ↔ (x : Int) ∈ az.map (·.1) := by
  unfold seenB
  rw [fold_at _ _ x (by rw [List.length_replicate]; exact hx), none_at]
  simp only [Bool.false_eq_true, false_or]
  constructor
  · rintro ⟨y, hy, rfl⟩
    obtain ⟨a, ha, rfl⟩ := List.mem_map.1 hy
    rw [show ((a.1.toNat : Nat) : Int) = a.1 by have := hz a ha; omega]
    exact hy
  · intro h; exact ⟨_, h, by simp⟩

theorem info256 : (Tryz.prog.info? 136).map (fun i => (i.zero, i.size)) = some (some (.agg (List.replicate 256 (Value.bool false)).toArray), 256) := by kernel_rfl

theorem zero256 (w : World) : (zeroValue 136).run Tryz.prog w = .ok (.agg (boolsA (List.replicate 256 false))) w := by
  rw [boolsA_zero]
  exact (zero_of_info info256).1 w

theorem indexAt256 (B x : Nat) (h : x < 256) (w : World) : (Instr.indexAt 136 (.pointer (some ⟨B, 0, none⟩)) (.int .i64 (x : Int))).run Tryz.prog w = .ok (.pointer (some ⟨B, x, none⟩)) w := by
  have hz := Tryz.sizeOf4
  have h1 : Tryz.prog.arrayLen 136 = 256 := by kernel_rfl
  have h2 : Tryz.prog.elem 136 = 4 := by kernel_rfl
  have h0 : Tryz.prog.underlying 136 = some (.array (Tryz.prog.arrayLen 136) (Tryz.prog.elem 136)) := by kernel_rfl
  have hx : 0 ≤ (x : Int) ∧ (x : Int) < 256 := by omega
  rw [run_indexAt_array (h := h0), h1, h2, if_pos (by simpa using hx), hz]
  simp [Result.andThen, Addr.add_lit]

set_option maxHeartbeats 3200000 in
set_option maxRecDepth 20000 in
theorem stateFault_any (p q : Option Addr) (cp cq : Nat) (ss : List Int) (az : List L2) (i : Option Addr) (ni ci : Nat) (cs : List In) (N : Int) (w : World) (hp : Rd .i64 w p ss.length ss) (hq : RdR lineE 2 w q az.length az) (hi : RdR inE 8 w i ni cs) (hsi : inSum cs ≤ 1048576) (hni : ni ≤ 1048576) (h1 : ss.length ≤ 1048576) (h2 : az.length ≤ 1048576) (hN0 : 0 ≤ N) (hN : N ≤ 12) :
    Calls Tryz.prog 58 #[.agg #[.slice p ss.length cp, .slice q az.length cq], .slice i ni ci, .int .i64 N] w fun e w' => e = .returned (.int .i64 (stateF cs N (ss, az))) ∧ Below w.heap.size w w' := by
  have B1 : ∀ o1, Below w.heap.size w (w.alloc o1) := fun o1 => (Below.refl _ _).alloc (Nat.le_refl _) o1
  have CS := fun w' h1' h2' => implSetFault_any i ni ci cs p ss.length cp ss w' h1' h2' hsi hni h1
  obtain ⟨R, hR⟩ : ∃ R, R = stateF cs N (ss, az) := ⟨_, rfl⟩
  rw [← hR]
  by_cases hf : setFault cs ss = 0
  case neg =>
    have e : R = setFault cs ss := by rw [hR, stateF, if_pos hf]
    rw [e]
    generalize setFault cs ss = F at *
    have hf' : (F == 0) = false := by simpa using hf
    have HCS := hid CS
    clear CS hR e
    go_enter Tryz.func58, Tryz.ntmps58
    go_wp2_with fail
    refine (HCS.out _ (hi.below (B1 _)) (hp.below (B1 _))).mono ?_
    rintro e w1 ⟨rfl, hb1⟩
    go_wp2
    go_ret
    exact ⟨rfl, below_slot hb1⟩
  rw [hf] at CS
  have hR2 : R = arcsF N az := by rw [hR, stateF, if_neg (by simpa using hf)]
  have HCS := hid CS
  clear CS hR hf
  by_cases h256 : 256 < az.length
  · have h' : (256 : Int) < (az.length : Int) := by omega
    have HR := hid hR2
    clear hR2
    go_enter Tryz.func58, Tryz.ntmps58
    go_wp2_with fail
    refine (HCS.out _ (hi.below (B1 _)) (hp.below (B1 _))).mono ?_
    rintro e w1 ⟨rfl, hb1⟩
    have d1 : w1.cell? ⟨w.heap.size, 1, none⟩ = some (.slice q az.length cq) := cell_later hb1 (by simp [go_sem])
    go_wp2
    go_ret
    exact ⟨ret_int (by rw [HR.out, arcsF, if_pos h256]), below_slot hb1⟩
  have h' : ¬ (256 : Int) < (az.length : Int) := by omega
  have HT : Hid (arcGo N (az.take 0) (az.drop 0) = R) := by rw [hR2, arcsF, if_neg h256]; rfl
  clear hR2
  obtain ⟨Z, hZ⟩ : ∃ Z, Z = boolsA (List.replicate 256 false) := ⟨_, rfl⟩
  have hzv := zero256
  rw [← hZ] at hzv
  have HZ : Hid _ := hZ
  clear hZ
  go_enter Tryz.func58, Tryz.ntmps58
  go_wp2_with fail
  refine (HCS.out _ (hi.below (B1 _)) (hp.below (B1 _))).mono ?_
  rintro e w1 ⟨rfl, hb1⟩
  have d1 : w1.cell? ⟨w.heap.size, 1, none⟩ = some (.slice q az.length cq) := cell_later hb1 (by simp [go_sem])
  have hb01 : Below w.heap.size w w1 := below_slot hb1
  have HQ := hid (hq.below hb01)
  have hB0 : Hid (Blk (w1.alloc (.cells Z 136)) w1.heap.size (boolsA (seenB (az.take 0))) 136) := by
    have e : boolsA (seenB (az.take 0)) = Z := HZ.out.symm
    rw [e]
    exact Blk.new _ _ _
  have hbA := (Below.refl w1.heap.size w1).alloc (Nat.le_refl _) (.cells Z 136)
  have d1a := cell_later hbA d1
  have z1 : w.heap.size < w1.heap.size := by have := hb1.size; simp at this; omega
  clear hb1
  go_wp2
  go_loopw [25] (fun i wr => ∃ k : Nat, k ≤ az.length ∧ i = .int .i64 k ∧ Hid (Blk wr w1.heap.size (boolsA (seenB (az.take k))) 136) ∧ Hid (∀ a ∈ az.take k, 0 ≤ a.1 ∧ a.1 ≤ 255) ∧ Hid (arcGo N (az.take k) (az.drop k) = R) ∧ Below w1.heap.size w1 wr ∧ w1.heap.size < wr.heap.size) (fun i _ => az.length - (intOf i).toNat)
  case atStart => exact ⟨0, Nat.zero_le _, rfl, hB0, (by simp : ∀ a ∈ az.take 0, 0 ≤ a.1 ∧ a.1 ≤ 255), HT, hbA, by simp⟩
  case round =>
    obtain ⟨k, hk, rfl, HB, HA, ht, hbw, hzw⟩ := hrel
    clear HT hB0 hbA
    by_cases hlt : k < az.length
    · obtain ⟨b1, o1, c, rfl, hx, hc⟩ := (HQ.out.below hbw).at hlt
      obtain ⟨e0, e1⟩ := two hc
      have ht2 := ht.out
      rw [arcGo_at hx] at ht2
      have hst := seenB_step hx
      have htk : az.take (k + 1) = az.take k ++ [c] := by
        obtain ⟨hk', e⟩ := List.getElem?_eq_some_iff.1 hx
        rw [List.take_succ_eq_append_getElem hk', e]
      have hlt' : (k : Int) < (az.length : Int) := by omega
      obtain ⟨x, y⟩ := c
      simp only at e0 e1 ht2 hst
      have HTK := hid htk
      have HST := hid hst
      have HT2 := hid ht2
      have hbx : Below w.heap.size w wr := hb01.trans (hbw.mono hb01.size)
      clear hx hc ht ht2 hst htk
      by_cases hx0 : x < 0
      · have := HT2.out
        rw [if_pos (by exact .inl (by simp only; omega))] at this
        have HR := hid this
        clear this HT2
        go_wp2
        go_ret
        exact ⟨ret_int HR.out, hbx.alloc hbx.size _⟩
      by_cases hx1 : 256 ≤ x
      · have := HT2.out
        rw [if_pos (by exact .inl (by simp only; omega))] at this
        have HR := hid this
        clear this HT2
        go_wp2
        go_ret
        exact ⟨ret_int HR.out, hbx.alloc hbx.size _⟩
      by_cases hy0 : y < 0
      · have := HT2.out
        rw [if_pos (by exact .inr (by simp only; omega))] at this
        have HR := hid this
        clear this HT2
        go_wp2
        go_ret
        exact ⟨ret_int HR.out, hbx.alloc hbx.size _⟩
      by_cases hy1 : N ≤ y
      · have := HT2.out
        rw [if_pos (by exact .inr (by simp only; omega))] at this
        have HR := hid this
        clear this HT2
        go_wp2
        go_ret
        exact ⟨ret_int HR.out, hbx.alloc hbx.size _⟩
      have ht3 := HT2.out
      rw [if_neg (by unfold ArcBad; simp only; omega)] at ht3
      clear HT2
      obtain ⟨X, rfl⟩ : ∃ X : Nat, x = (X : Int) := ⟨x.toNat, by omega⟩
      have hX : X < 256 := by omega
      have hX' : (X : Int) < 256 := by omega
      have hmem := seenB_mem HA.out hX
      have hia := indexAt256 w1.heap.size X hX
      have cb := (HB.out.alloc (.cells #[.int .i64 (X : Int), .int .i64 y] 99)).boolA (j := X) (by rw [seenB_len]; exact hX)
      have cf := (HB.out.alloc (.cells #[.int .i64 (X : Int), .int .i64 y] 99)).frozen X
      have hbm := (HB.out.markA X true).alloc (.cells #[.int .i64 (X : Int), .int .i64 y] 99)
      rw [show (seenB (az.take k)).set X true = seenB (az.take (k + 1)) by simpa using HST.out] at hbm
      have HBM := hid hbm
      clear hbm HB HST
      cases hb : (seenB (az.take k)).getD X false
      · rw [hb] at hmem cb
        rw [if_neg (fun h => absurd (hmem.2 h) (by simp))] at ht3
        have HT3 := hid ht3
        have HA2 : Hid (∀ a ∈ az.take (k + 1), 0 ≤ a.1 ∧ a.1 ≤ 255) := by
          have : ∀ a ∈ az.take (k + 1), 0 ≤ a.1 ∧ a.1 ≤ 255 := by
            rw [HTK.out]
            intro a ha
            rcases List.mem_append.1 ha with ha | ha
            · exact HA.out a ha
            · simp at ha
              subst ha
              simp only
              omega
          exact this
        clear ht3 hmem hb HTK HA
        go_wp2
        go_roundw
        case rel => exact ⟨k + 1, by omega, by go_num, HBM, HA2, HT3, (hbw.setCell (Nat.le_refl _) _).alloc (by simpa using hbw.size) _, by simp; omega⟩
        case measure => simp [intOf]; omega
      · rw [hb] at hmem cb
        rw [if_pos (hmem.1 rfl)] at ht3
        have HT3 := hid ht3
        clear ht3 hmem hb HTK HA
        go_wp2
        go_ret
        exact ⟨ret_int HT3.out, hbx.alloc hbx.size _⟩
    · have ht2 := ht.out
      rw [arcGo_end (by omega)] at ht2
      go_wp2
      go_ret
      exact ⟨ret_int ht2, hb01.trans (hbw.mono hb01.size)⟩

theorem tableSize_is (z : Int) (b : Bool) (w : World) (h : decide (1 ≤ z ∧ z ≤ 12) = b) :
    Calls Tryz.prog 57 #[.int .i64 z] w fun e w' => e = .returned (.bool b) ∧ w' = w := by
  subst h
  by_cases h1 : 1 ≤ z
  · by_cases h2 : z ≤ 12
    · have e : decide (1 ≤ z ∧ z ≤ 12) = true := decide_eq_true ⟨h1, h2⟩
      rw [e]
      go_enter Tryz.func57, Tryz.ntmps57
      go_wp2
      go_ret
      exact ⟨rfl, rfl⟩
    · have e : decide (1 ≤ z ∧ z ≤ 12) = false := decide_eq_false (fun h => h2 h.2)
      rw [e]
      go_enter Tryz.func57, Tryz.ntmps57
      go_wp2
      go_ret
      exact ⟨rfl, rfl⟩
  · have e : decide (1 ≤ z ∧ z ≤ 12) = false := decide_eq_false (fun h => h1 h.1)
    rw [e]
    go_enter Tryz.func57, Tryz.ntmps57
    go_wp2
    go_ret
    exact ⟨rfl, rfl⟩

theorem RdR.take {α : Type} {enc : α → List Value} {size : Nat} {w : World} {a : Option Addr} {n k : Nat} {xs : List α} (h : RdR enc size w a n xs) (hk : k ≤ n) : RdR enc size w a k (xs.take k) := by
  refine ⟨by rw [List.length_take, h.1]; omega, ?_⟩
  rcases h.2 with h0 | ⟨b, off, ha, hc⟩
  · exact .inl (by omega)
  · refine .inr ⟨b, off, ha, fun j x hx => hc j x ?_⟩
    rw [List.getElem?_take] at hx
    split at hx
    · exact hx
    · cases hx

theorem RdT.take {w : World} {a : Option Addr} {n k : Nat} {ts : List St} (h : RdT w a n ts) (hk : k ≤ n) : RdT w a k (ts.take k) := by
  obtain ⟨us, h1, h2, h3⟩ := h
  have ct : ∀ {β : Type} (l : List β) (j : Nat) (x : β), (l.take k)[j]? = some x → l[j]? = some x := by
    intro β l j x hx
    rw [List.getElem?_take] at hx
    split at hx
    · exact hx
    · cases hx
  exact ⟨us.take k, h1.take hk, by rw [List.length_take, List.length_take, h2], fun j u x hu hx => h3 j u x (ct _ _ _ hu) (ct _ _ _ hx)⟩

set_option maxHeartbeats 1600000 in
theorem haveOne_any (a : Option Addr) (n ca : Nat) (ts : List St) (w : World) (ht : RdT w a n ts) (hs : (n : Int) + stN ts ≤ 1048576) (hca : n ≤ ca) (hm : ca ≤ maxLen) :
    Calls Tryz.prog 59 #[.slice a n ca] w fun e w' => e = .returned (.bool (decide (¬ Lone ts))) ∧ Below w.heap.size w w' := by
  obtain ⟨R, hR⟩ : ∃ R, R = decide (¬ Lone ts) := ⟨_, rfl⟩
  rw [← hR]
  have HR := hid hR
  have HL := hid ht.len
  have HM := hid hm
  clear hR hm
  go_enter Tryz.func59, Tryz.ntmps59
  go_wp2
  go_loopw [9] (fun i wr => ∃ k : Nat, k ≤ n ∧ i = .int .i64 k ∧ Below w.heap.size w wr ∧ Hid (Lone (ts.take k))) (fun i _ => n - (intOf i).toNat)
  case atStart => exact ⟨0, Nat.zero_le _, rfl, Below.refl _ _, (by simp [Lone] : Lone (ts.take 0))⟩
  case round =>
    obtain ⟨k, hk, rfl, hbw, hl⟩ := hrel
    by_cases hlt : k < n
    · obtain ⟨b1, o1, p, cp, q, cq, ss, az, rfl, hx, d0, d1, r1, r2, -, -⟩ := (ht.below hbw).at hlt
      have hlo := lone_take hx
      have htk := RdT.take (ht.below hbw) (show k ≤ n by omega)
      have hs1 := stN_succ hx
      have hs2 := stN_take ts (k + 1)
      rw [hs1] at hs2
      have HLO := hid hlo
      have HTK := hid htk
      have HR1 := hid r1
      have hlt' : (k : Int) < (n : Int) := by omega
      have hkc : k ≤ ca := by omega
      have HLK := hid hl.out
      clear hx hlo htk hs1 r1 r2 hl
      obtain ⟨wo, rfl⟩ : ∃ wo : World, wo = wr := ⟨_, rfl⟩
      have hba := (Below.refl wo.heap.size wo).alloc (Nat.le_refl _) (.cells #[.slice p ss.length cp, .slice q az.length cq] 91)
      go_wp2
      go_loopw [18] (fun i wr => ∃ j : Nat, j ≤ k ∧ i = .int .i64 j ∧ Below wo.heap.size wo wr ∧ wr.cell? ⟨wo.heap.size, 0, none⟩ = some (.slice p ss.length cp) ∧ wo.heap.size < wr.heap.size ∧ Hid (ss ∉ (ts.take j).map (·.1))) (fun i _ => k - (intOf i).toNat)
      case atStart => exact ⟨0, Nat.zero_le _, rfl, hba, by simp [go_sem], by simp, (by simp : ss ∉ (ts.take 0).map (·.1))⟩
      case round =>
        obtain ⟨j, hj, rfl, hbi, hci, hzi, hn⟩ := hrel
        by_cases hjk : j < k
        · obtain ⟨b2, o2, p', cp', q', cq', ss', az', e2, hx', g0, g1, r1', r2', -, -⟩ := (HTK.out.below hbi).at hjk
          simp only [Option.some.injEq, Addr.mk.injEq] at e2
          obtain ⟨rfl, rfl, -⟩ := e2
          obtain ⟨hj', e'⟩ := List.getElem?_eq_some_iff.1 hx'
          have hx2 : ts[j]? = some (ss', az') := by rwa [List.getElem?_take_of_lt hjk] at hx'
          have hsu : (ts.take (j + 1)).map (·.1) = (ts.take j).map (·.1) ++ [ss'] := by
            obtain ⟨hj2, e2⟩ := List.getElem?_eq_some_iff.1 hx2
            rw [List.take_succ_eq_append_getElem hj2, e2]; simp
          have hin : ss' ∈ (ts.take k).map (·.1) := List.mem_map.2 ⟨_, List.mem_of_getElem? hx', rfl⟩
          have hs3 := stN_succ hx2
          have hs4 := stN_take ts (j + 1)
          rw [hs3] at hs4
          have hba2 := fun o => hbi.alloc hbi.size o
          have CE := hid (fun o => slEq_any p' p ss'.length ss.length cp' cp ss' ss (wr.alloc o) (r1'.below ((Below.refl _ _).alloc (Nat.le_refl _) o)) (HR1.out.below (hba2 o)) (by omega) (by omega))
          have HSU := hid hsu
          have HIN := hid hin
          have hjk' : (j : Int) < (k : Int) := by omega
          have hcb : ∀ o, (wr.alloc o).cell? ⟨wo.heap.size, 0, none⟩ = some (.slice p ss.length cp) := fun o => cell_later ((Below.refl _ _).alloc (Nat.le_refl _) o) hci
          have hcb' := hcb (.cells #[.slice p' ss'.length cp', .slice q' az'.length cq'] 91)
          clear hx' hj' e' hx2 hsu hin hs3 r1' r2' hcb
          by_cases he : ss' = ss
          · have hnl : decide (¬ Lone ts) = true := decide_eq_true (fun h => (HLO.out.1 (lone_less h)).2 (he ▸ HIN.out))
            have hRt := HR.out.trans hnl
            rw [decide_eq_true he] at CE
            have HRt := hid hRt
            clear hnl hRt he
            go_wp2_with fail
            refine (CE.out _).mono ?_
            rintro e w3 ⟨rfl, d', rfl⟩
            go_wp2
            go_ret
            exact ⟨ret_bool HRt.out.symm, hbw.trans ((below_drewN (hba2 _) d').mono hbw.size)⟩
          · have hn2 : ss ∉ (ts.take (j + 1)).map (·.1) := by
              rw [HSU.out, List.mem_append, List.mem_singleton]
              exact fun h => h.elim hn.out (fun h => he h.symm)
            have HN2 := hid hn2
            rw [decide_eq_false he] at CE
            clear he hn2 hn
            go_wp2_with fail
            refine (CE.out _).mono ?_
            rintro e w3 ⟨rfl, d', rfl⟩
            go_wp2
            go_roundw
            case rel => exact ⟨j + 1, by omega, by go_num, below_drewN (hba2 _) d', hcb', by simp; omega, HN2⟩
            case measure => simp [intOf]; omega
        · obtain rfl : j = k := by omega
          have hl2 := hid (HLO.out.2 ⟨HLK.out, hn.out⟩)
          clear hn
          go_wp2
          go_roundw
          case rel => exact ⟨j + 1, by omega, by go_num, hbw.trans (hbi.mono hbw.size), hl2⟩
          case measure => simp [intOf]; omega
    · have hl2 := hl.out
      rw [List.take_of_length_le (by rw [HL.out]; omega)] at hl2
      have hRf : R = false := HR.out.trans (decide_eq_false (by simpa using hl2))
      have HRf := hid hRf
      clear hl hl2 hRf
      go_wp2
      go_ret
      exact ⟨ret_bool HRf.out.symm, hbw⟩

set_option maxHeartbeats 3200000 in
set_option maxRecDepth 20000 in
theorem implTableFault_any (i : Option Addr) (ni ci : Nat) (cs : List In) (z : Int) (a : Option Addr) (n ca : Nat) (ts : List St) (w : World) (hi : RdR inE 8 w i ni cs) (hsi : inSum cs ≤ 1048576) (hni : ni ≤ 1048576) (ht : RdT w a n ts) (hs : (n : Int) + stN ts ≤ 1048576) (hca : n ≤ ca) (hm : ca ≤ maxLen) :
    Calls Tryz.prog 32 #[.slice i ni ci, .agg #[.int .i64 z, .slice a n ca]] w fun e w' => e = .returned (.int .i64 (tabF cs z ts)) ∧ Below w.heap.size w w' := by
  have B1 : ∀ o1, Below w.heap.size w (w.alloc o1) := fun o1 => (Below.refl _ _).alloc (Nat.le_refl _) o1
  have CP := fun w' h' => implProgFault_any i ni ci cs w' h' hsi hni
  have hlen := ht.len
  have HM := hid hm
  clear hm
  obtain ⟨R, hR⟩ : ∃ R, R = tabF cs z ts := ⟨_, rfl⟩
  rw [← hR]
  by_cases hp : progFault cs = 0
  case neg =>
    have e : R = progFault cs := by rw [hR, tabF, if_pos hp]
    rw [e]
    generalize progFault cs = P at *
    have hp' : (P == 0) = false := by simpa using hp
    have HP : Hid _ := CP
    clear CP hlen hR e
    go_enter Tryz.func32, Tryz.ntmps32
    go_wp2_with fail
    refine (HP.out _ (hi.below (B1 _))).mono ?_
    rintro e w1 ⟨rfl, hb1⟩
    go_wp2
    go_ret
    exact ⟨rfl, below_slot hb1⟩
  rw [hp] at CP
  have HP : Hid _ := CP
  clear CP
  by_cases hz : 1 ≤ z ∧ z ≤ 12
  case neg =>
    have e : R = 3 := by rw [hR, tabF, if_neg (by simp [hp]), if_pos hz]
    rw [e]
    have CI : Hid _ := fun w' => tableSize_is z false w' (by simpa using hz)
    clear hlen hR e hp
    go_enter Tryz.func32, Tryz.ntmps32
    go_wp2_with fail
    refine (HP.out _ (hi.below (B1 _))).mono ?_
    rintro e w1 ⟨rfl, hb1⟩
    have c0 : w1.cell? ⟨w.heap.size, 0, none⟩ = some (.int .i64 z) := cell_later hb1 (by simp [go_sem])
    go_wp2_with fail
    refine (CI.out _).mono ?_
    rintro e w2 ⟨rfl, rfl⟩
    go_wp2
    go_ret
    exact ⟨rfl, below_slot hb1⟩
  have CI : Hid _ := fun w' => tableSize_is z true w' (by simpa using hz)
  by_cases hn : z < (n : Int)
  · have e : R = 2 := by rw [hR, tabF, if_neg (by simp [hp]), if_neg (by omega), if_pos (by omega)]
    rw [e]
    clear hlen hR e hp
    go_enter Tryz.func32, Tryz.ntmps32
    go_wp2_with fail
    refine (HP.out _ (hi.below (B1 _))).mono ?_
    rintro e w1 ⟨rfl, hb1⟩
    have c0 : w1.cell? ⟨w.heap.size, 0, none⟩ = some (.int .i64 z) := cell_later hb1 (by simp [go_sem])
    have c1 : w1.cell? ⟨w.heap.size, 1, none⟩ = some (.slice a n ca) := cell_later hb1 (by simp [go_sem])
    go_wp2_with fail
    refine (CI.out _).mono ?_
    rintro e w2 ⟨rfl, rfl⟩
    go_wp2
    go_ret
    exact ⟨rfl, below_slot hb1⟩
  have hn' : ¬ z < (n : Int) := hn
  have hR2 : R = if stateGo cs n ts ≠ 0 then stateGo cs n ts else if Lone ts then 0 else 6 := by
    rw [hR, tabF, if_neg (by simp [hp]), if_neg (by omega), if_neg (by omega), hlen]
  have HR := hid hR2
  have HL := hid hlen
  have hn12 : n ≤ 12 := by omega
  clear hR2 hR hlen hp
  go_enter Tryz.func32, Tryz.ntmps32
  go_wp2_with fail
  refine (HP.out _ (hi.below (B1 _))).mono ?_
  rintro e w1 ⟨rfl, hb1⟩
  have c0 : w1.cell? ⟨w.heap.size, 0, none⟩ = some (.int .i64 z) := cell_later hb1 (by simp [go_sem])
  have c1 : w1.cell? ⟨w.heap.size, 1, none⟩ = some (.slice a n ca) := cell_later hb1 (by simp [go_sem])
  have hb01 := below_slot hb1
  have ht1 := ht.below hb01
  have hi1 := hi.below hb01
  have HB1 := hid hb01
  clear ht hi hb1 hb01
  go_wp2_with fail
  refine (CI.out _).mono ?_
  rintro e w2 ⟨rfl, rfl⟩
  go_wp2
  go_loopw [27] (fun i wr => ∃ k : Nat, k ≤ n ∧ i = .int .i64 k ∧ Below w2.heap.size w2 wr ∧ Hid (stateGo cs n (ts.drop k) = stateGo cs n ts)) (fun i _ => n - (intOf i).toNat)
  case atStart => exact ⟨0, Nat.zero_le _, rfl, Below.refl _ _, (rfl : stateGo cs n (ts.drop 0) = stateGo cs n ts)⟩
  case round =>
    obtain ⟨k, hk, rfl, hbw, hg⟩ := hrel
    have e0 := cell_later hbw c0
    have e1 := cell_later hbw c1
    by_cases hlt : k < n
    · obtain ⟨b1, o1, q, cq, r, cr, ss, az, ea, hx, d0, d1, r1, r2, -, -⟩ := (ht1.below hbw).at hlt
      subst ea
      have hg2 := hg.out
      rw [stateGo_at hx] at hg2
      have hs1 := stN_succ hx
      have hs2 := stN_take ts (k + 1)
      rw [hs1] at hs2
      have hlt' : (k : Int) < (n : Int) := by omega
      have hba := (Below.refl wr.heap.size wr).alloc (Nat.le_refl _) (.cells #[.slice q ss.length cq, .slice r az.length cr] 91)
      have e1a := cell_later hba e1
      have CS := stateFault_any q r cq cr ss az i ni ci cs n (wr.alloc (.cells #[.slice q ss.length cq, .slice r az.length cr] 91)) (r1.below hba) (r2.below hba) (hi1.below (hbw.trans (hba.mono hbw.size))) hsi hni (by omega) (by omega) (by omega) (by omega)
      clear hx hs1 r1 r2 hg
      by_cases hf : stateF cs n (ss, az) = 0
      case neg =>
        rw [if_pos hf] at hg2
        have hR3 := HR.out
        rw [← hg2, if_pos hf] at hR3
        generalize stateF cs n (ss, az) = F at *
        have hf' : (F == 0) = false := by simpa using hf
        have HCS := hid CS
        have HR3 := hid hR3
        clear hg2 CS hR3 hf
        go_wp2_with fail
        refine HCS.out.mono ?_
        rintro e w3 ⟨rfl, hb3⟩
        go_wp2
        go_ret
        exact ⟨ret_int HR3.out.symm, HB1.out.trans ((hbw.trans ((hba.trans (hb3.mono hba.size)).mono hbw.size)).mono HB1.out.size)⟩
      rw [hf] at CS
      rw [if_neg (by simpa using hf)] at hg2
      have HCS := hid CS
      have HG := hid hg2
      clear CS hg2 hf
      go_wp2_with fail
      refine HCS.out.mono ?_
      rintro e w3 ⟨rfl, hb3⟩
      go_wp2
      go_roundw
      case rel => exact ⟨k + 1, by omega, by go_num, hbw.trans ((hba.trans (hb3.mono hba.size)).mono hbw.size), HG⟩
      case measure => simp [intOf]; omega
    · have hg2 := hg.out
      rw [List.drop_of_length_le (by rw [HL.out]; omega)] at hg2
      have hR3 := HR.out
      rw [← hg2] at hR3
      have h4 : R = if Lone ts then 0 else 6 := by
        have : stateGo cs n [] = 0 := rfl
        rw [this] at hR3
        simpa using hR3
      have CH := haveOne_any a n ca ts wr (ht1.below hbw) hs hca HM.out
      have HBW := hid hbw
      clear hg hg2 hR3 HR
      by_cases hlo : Lone ts
      · rw [if_pos hlo] at h4
        have e : decide (¬ Lone ts) = false := decide_eq_false (by simpa using hlo)
        rw [e] at CH
        have HCH := hid CH
        have HR4 := hid h4
        clear e h4 CH hlo
        go_wp2_with fail
        refine HCH.out.mono ?_
        rintro e w3 ⟨rfl, hb3⟩
        go_wp2
        go_ret
        exact ⟨ret_int HR4.out.symm, HB1.out.trans ((HBW.out.trans (hb3.mono HBW.out.size)).mono HB1.out.size)⟩
      · rw [if_neg hlo] at h4
        have e : decide (¬ Lone ts) = true := decide_eq_true hlo
        rw [e] at CH
        have HCH := hid CH
        have HR4 := hid h4
        clear e h4 CH hlo
        go_wp2_with fail
        refine HCH.out.mono ?_
        rintro e w3 ⟨rfl, hb3⟩
        go_wp2
        go_ret
        exact ⟨ret_int HR4.out.symm, HB1.out.trans ((HBW.out.trans (hb3.mono HBW.out.size)).mono HB1.out.size)⟩
end Go.Proofs.YtlemdjgpkmjihaaGreat
