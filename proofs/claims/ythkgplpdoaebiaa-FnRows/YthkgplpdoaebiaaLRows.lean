/-
  For every code, FnRows returns true: the rows of a drawn line make its cells, each as wide as it has to be, and the program counts them as the model does; no condition.
-/
import Derived.Test.YthkgplpdoaebiaaDrawWA
import Derived.Test.YthkgplpdoaebiaaCells3
import Derived.Test.YthkgplpdoaebiaaArgsA
import Derived.ProofKit
import Derived.OpenShut
import Derived.ChangeOld
import Derived.Below
import Derived.Carry
namespace Go.Proofs.Ythkgplpdoaebiaa
open Go.RowKit
set_option linter.unusedVariables false
set_option linter.unusedSimpArgs false

set_option maxHeartbeats 1600000 in
theorem l1LongS_any (B b T : Nat) (w : World) (hs : Src w B b T) (hT : T ≤ 10000) :
    Calls Try.prog 41 #[.pointer (some ⟨b, 0, none⟩)] w fun e w' => ∃ v ys, e = .returned v ∧ Own .u8 5 w' w.heap.size v ys.length ys ∧ ys.length ≤ 401 ∧ Bytes ys ∧ Src w' B b (T + 38) ∧ w.grownBy w' (some b) := by
  obtain ⟨i0, hi, hz0, hz1, hz2⟩ := info_parts info8d
  have hlt := hs.lt
  go_enter Try.func41, Try.ntmps41
  go_wp2_with fail
  refine (l1Chance_any B b T 30 _ hs (by omega) (by omega)).mono ?_
  rintro e w1 ⟨q, rfl, hs1, hg1⟩
  have hy1 := hg1.size
  cases q
  · go_wp2_with fail
    refine (l1Line_any B b _ 12 _ hs1 (by omega) (by omega) (by omega)).mono ?_
    rintro e w2 ⟨v2, ys, rfl, ho2, hyl, hyb, hs2, hg2⟩
    go_wp2
    go_ret
    exact ⟨_, ys, rfl, ho2.up hy1, by omega, hyb, hs2.more (by omega), grown_trans hg1 hg2⟩
  · go_wp2_with fail
    refine (l1Pick_any B b _ w1.heap.size 2 [400, 401] _ (hs1.alloc _) (by omega) rfl (by omega) (by omega) (by omega) (lit_rd w1 [400, 401] 2 rfl (by simp [maxLen]))).mono ?_
    rintro e w2 ⟨x, rfl, hx, hs2, hg2⟩
    have hxb : 400 ≤ x ∧ x ≤ 401 := by simp at hx; omega
    obtain ⟨x1, x2⟩ := hxb
    obtain ⟨n, rfl⟩ := Int.eq_ofNat_of_zero_le (show 0 ≤ x by omega)
    have hg02 := grown_trans hg1 (grownBy_alloc_trans hg2)
    have hy2 := hg02.size
    clear hx hg2 hg1
    go_wp2_with (at_make; refine wpList_make_full _ rfl _ _ 22 rfl w2.heap.size 5 i0 (.int .u8 0) 1 Try.underlying22 hi hz0 hz1 _ _ _ _ n rfl rfl rfl rfl (by rw [hz2]; omega) (by unfold maxLen; omega) (Nat.le_refl _) ?_)
    intro w3 hown1 hgrow1
    have ho1 : Own .u8 5 w3 w2.heap.size (.slice (some ⟨w2.heap.size, 0, none⟩) n n) n (List.replicate n 0) := by
      unfold Own
      rw [List.map_replicate, ← toList_madeCells_one]
      exact hown1
    have hb1 : Below w2.heap.size w2 w3 := (Below.refl _ _).grown hgrow1 (Nat.le_refl _) (by simp)
    clear hown1 hgrow1
    go_wp2
    go_ret
    exact ⟨_, List.replicate n 0, rfl, by simpa using ho1.up hy2, by simp; omega, fun z hz => by have := List.eq_of_mem_replicate hz; omega, (hs2.kept (grownBy_of_below hb1) (by simp)).more (by omega), grown_trans hg02 (grown_none (grownBy_of_below hb1))⟩

set_option maxRecDepth 10000 in
set_option maxHeartbeats 3200000 in
theorem DrawRowCount_any (a : Option Addr) (n ca : Nat) (xs : List Int) (w : World) (ha : Rd .u8 w a n xs) (hB : Bytes xs) (hn : n ≤ 1048576) :
    Calls Try.prog 12 #[.slice a n ca] w fun e w' => ∃ v ys W Q S, e = .returned (.tuple #[v, .agg #[.int .i64 W, .bool Q, .int .i64 S]]) ∧ RowI .u8 5 w' w.heap.size w'.heap.size v ys.length ys ∧ ys.length ≤ 401 ∧ Bytes ys ∧ Below w.heap.size w w' := by
  go_enter Try.func12, Try.ntmps12
  have hb : Below w.heap.size w w := Below.refl _ _
  go_wp2_with fail
  have bp : ∀ o0, Below w.heap.size w (w.alloc o0) := fun o0 => (Below.refl _ _).alloc (Nat.le_refl _) o0
  have hbt : ∀ o0, Below w.heap.size w (w.alloc o0) := fun o0 => hb.trans ((bp o0).mono hb.size)
  refine Calls.mono (l1Source_any a n ca xs w.heap.size _ (ha.below (hbt _)) hB hn (src_below ha) (by simp)) ?_
  rintro e w1 ⟨rfl, hs, hc⟩
  (try simp only [World.size_alloc] at hs)
  have s1 : w.heap.size + 1 ≤ w1.heap.size := by have := hc.size; simp at this; omega
  have bq : Below w.heap.size w w1 := (bp _).trans (hc.mono (bp _).size)
  have cR0 : w1.cell? ⟨w.heap.size, 0, none⟩ = some (.int .i64 0) := cell_later hc (by simp [go_sem])
  have fR0 : w1.frozen? ⟨w.heap.size, 0, none⟩ = false := (hc.frozen (p := ⟨w.heap.size, 0, none⟩) (by first | (simp; done) | (simp; omega))).trans (by simp [go_sem])
  have cR1 : w1.cell? ⟨w.heap.size, 1, none⟩ = some (.bool false) := cell_later hc (by simp [go_sem])
  have fR1 : w1.frozen? ⟨w.heap.size, 1, none⟩ = false := (hc.frozen (p := ⟨w.heap.size, 1, none⟩) (by first | (simp; done) | (simp; omega))).trans (by simp [go_sem])
  have cR2 : w1.cell? ⟨w.heap.size, 2, none⟩ = some (.int .i64 0) := cell_later hc (by simp [go_sem])
  have fR2 : w1.frozen? ⟨w.heap.size, 2, none⟩ = false := (hc.frozen (p := ⟨w.heap.size, 2, none⟩) (by first | (simp; done) | (simp; omega))).trans (by simp [go_sem])
  have zR : w.heap.size < w1.heap.size := by omega
  replace hb := hb.trans (bq.mono hb.size)
  clear hc bq bp hbt
  have zsrc := hs.lt
  have zsrc0 := zsrc
  go_wp2_with fail
  refine Calls.mono (l1LongS_any w.heap.size (w.heap.size + 1) 0 _ hs (by omega)) ?_
  clear hs
  rintro e w2 ⟨v, ys, rfl, ov, hyl, hyb, hs, hc⟩
  have rv := RowI.of ov
  obtain ⟨av, kv, rfl, hkv1, hkv2⟩ := rv.shape
  clear ov
  have s2 : w1.heap.size ≤ w2.heap.size := hc.size
  have gq : w1.grownBy w2 (some (w.heap.size + 1)) := hc
  replace cR0 := (Chg.one gq).at cR0 zR (by omega)
  replace fR0 := (Chg.one gq).fr fR0 zR (by omega)
  replace cR1 := (Chg.one gq).at cR1 zR (by omega)
  replace fR1 := (Chg.one gq).fr fR1 zR (by omega)
  replace cR2 := (Chg.one gq).at cR2 zR (by omega)
  replace fR2 := (Chg.one gq).fr fR2 zR (by omega)
  replace zR := Nat.lt_of_lt_of_le zR gq.size
  replace hb := below_src hb gq (by omega)
  clear hc gq
  replace zsrc := hs.lt
  go_wp2_with fail
  refine Calls.mono (l10Bent_any w.heap.size (w.heap.size + 1) _ _ hs (by omega) (by have := hb.size; omega)) ?_
  clear hs
  rintro e w3 ⟨W, Q, S, rfl, hs, hc⟩
  have s3 : w2.heap.size ≤ w3.heap.size := hc.size
  have gq : w2.grownBy w3 (some (w.heap.size + 1)) := hc
  replace cR0 := (Chg.one gq).at cR0 zR (by omega)
  replace fR0 := (Chg.one gq).fr fR0 zR (by omega)
  replace cR1 := (Chg.one gq).at cR1 zR (by omega)
  replace fR1 := (Chg.one gq).fr fR1 zR (by omega)
  replace cR2 := (Chg.one gq).at cR2 zR (by omega)
  replace fR2 := (Chg.one gq).fr fR2 zR (by omega)
  replace zR := Nat.lt_of_lt_of_le zR gq.size
  replace rv := rv.chg (Chg.one gq) (by omega)
  replace hb := below_src hb gq (by omega)
  clear hc gq
  replace zsrc := hs.lt
  go_wp2
  exact bodyPost_ret (v := .tuple #[.slice av ys.length kv, .agg #[.int .i64 W, .bool Q, .int .i64 S]]) (by simp [results, Try.results12, go_sem, cR0, cR1, cR2]) rfl ⟨_, ys, W, Q, S, rfl, (rv.chg (Chg.one (grown_trans (grown_trans (setCell_grown _ _ _ _) (setCell_grown _ _ _ _)) (setCell_grown _ _ _ _))) (by omega)).mono (by omega) (by simp; omega), hyl, hyb, (((hb.setCell (by first | omega | (simp; omega) | simp) _).setCell (by first | omega | (simp; omega) | simp) _).setCell (by first | omega | (simp; omega) | simp) _)⟩
end Go.Proofs.Ythkgplpdoaebiaa

namespace Go.Proofs.Ythkgplpdoaebiaa
open Go.RowKit
set_option linter.unusedVariables false
set_option linter.unusedSimpArgs false

/-- the first r rows of a line, one behind the other -/
def allR (C : Bool) (W S : Int) (cs : List C3) : Nat → List C3
  | 0 => []
  | r + 1 => allR C W S cs r ++ rowOf C W S (r : Int) cs
theorem rF_nc (d R n : Nat) (S : Int) : rFrom false (d : Int) S (R : Int) n = min (R * d) n := by
  unfold rFrom
  rw [if_neg (by decide), ← Int.natCast_mul, Int.toNat_natCast]
theorem rT_nc (d R n : Nat) (S : Int) : rTo false (d : Int) S (R : Int) n = min n (min (R * d) n + d) := by
  unfold rTo
  rw [rF_nc, Int.toNat_natCast]
theorem rw_lt {d n R : Nat} (hd : 1 ≤ d) (hn : n ≠ 0) (h : R < rwN false (d : Int) n) : R * d < n := by
  unfold rwN at h
  rw [if_neg (by simp [hn]), show ((n : Int) + (d : Int) - 1).toNat = n + d - 1 by omega, Int.toNat_natCast] at h
  have h2 := (Nat.le_div_iff_mul_le (show 0 < d by omega)).1 (Nat.succ_le_of_lt h)
  rw [Nat.succ_mul] at h2
  omega
theorem rw_all {d n : Nat} (hd : 1 ≤ d) : n ≤ rwN false (d : Int) n * d := by
  by_cases hn : n = 0
  · omega
  · unfold rwN
    rw [if_neg (by simp [hn]), show ((n : Int) + (d : Int) - 1).toNat = n + d - 1 by omega, Int.toNat_natCast]
    have h := Nat.lt_mul_div_succ (n + d - 1) (show 0 < d by omega)
    rw [Nat.mul_add, Nat.mul_comm] at h
    omega
theorem all_nc {cs : List C3} {d : Nat} {S : Int} (hd : 1 ≤ d) : ∀ R, R ≤ rwN false (d : Int) cs.length → allR false (d : Int) S cs R = cs.take (R * d)
  | 0, _ => by simp [allR]
  | R + 1, h => by
    rw [allR, all_nc hd R (by omega)]
    unfold rowOf
    rw [rT_nc, rF_nc]
    by_cases hn : cs.length = 0
    · have : cs = [] := List.length_eq_zero_iff.1 hn
      subst this; simp
    · have h2 := rw_lt hd hn (show R < _ by omega)
      rw [show min (R * d) cs.length = R * d by omega, Nat.succ_mul, List.take_add]
      congr 1
      rw [List.take_eq_take_iff, List.length_drop]
      omega
theorem all_nc2 {cs : List C3} {d : Nat} {S : Int} (hd : 1 ≤ d) : allR false (d : Int) S cs (rwN false (d : Int) cs.length) = cs := by
  rw [all_nc hd _ (Nat.le_refl _), List.take_of_length_le (rw_all hd)]
theorem len_nc {cs : List C3} {d R : Nat} {S : Int} (hd : 1 ≤ d) (h : R < rwN false (d : Int) cs.length) :
    (rowOf false (d : Int) S (R : Int) cs).length ≤ d ∧ (R + 1 < rwN false (d : Int) cs.length → (rowOf false (d : Int) S (R : Int) cs).length = d) := by
  unfold rowOf
  rw [rT_nc, rF_nc, List.length_take, List.length_drop]
  refine ⟨by omega, fun h3 => ?_⟩
  by_cases hn : cs.length = 0
  · rw [hn] at h3; simp [rwN] at h3
  · have h2 := rw_lt hd hn h3
    rw [Nat.succ_mul] at h2
    omega
theorem len_c {cs : List C3} {d s : Nat} {R : Int} : (rowOf true (d : Int) (s : Int) R cs).length ≤ d ∧ (1 ≤ d → s < cs.length → 1 ≤ (rowOf true (d : Int) (s : Int) R cs).length ∧ (rowOf true (d : Int) (s : Int) R cs)[0]? = cs[s]?) := by
  unfold rowOf rTo rFrom
  rw [if_pos rfl, Int.toNat_natCast, Int.toNat_natCast, List.length_take, List.length_drop]
  refine ⟨by omega, fun h1 h2 => ⟨by omega, ?_⟩⟩
  rw [show min s cs.length = s by omega, List.getElem?_take, if_pos (by omega), List.getElem?_drop]; rfl
theorem rowOf_le (C : Bool) (W S R : Int) (cs : List C3) : (rowOf C W S R cs).length ≤ cs.length := by
  unfold rowOf; rw [List.length_take, List.length_drop]; omega
theorem allR_le (C : Bool) (W S : Int) (cs : List C3) : ∀ r, (allR C W S cs r).length ≤ r * cs.length
  | 0 => by simp [allR]
  | r + 1 => by
    have := allR_le C W S cs r
    have h2 := rowOf_le C W S (r : Int) cs
    rw [allR, List.length_append, Nat.succ_mul]; omega
theorem lens {C : Bool} {W S : Int} {cs : List C3} {r : Nat} (hW : 1 ≤ W) (hS : 0 ≤ S) (h : r < rwN C W cs.length) :
    ((rowOf C W S (r : Int) cs).length : Int) ≤ W ∧ (r + 1 < rwN C W cs.length → ((rowOf C W S (r : Int) cs).length : Int) = W) := by
  obtain ⟨d, rfl⟩ : ∃ d : Nat, W = (d : Int) := ⟨W.toNat, by omega⟩
  obtain ⟨s, rfl⟩ : ∃ s : Nat, S = (s : Int) := ⟨S.toNat, by omega⟩
  cases C
  · have h1 := len_nc (S := (s : Int)) (show 1 ≤ d by omega) h
    exact ⟨by omega, fun h2 => by have := h1.2 h2; omega⟩
  · have h1 := (len_c (cs := cs) (d := d) (s := s) (R := (r : Int))).1
    refine ⟨by omega, fun h2 => ?_⟩
    simp [rwN] at h2
theorem rwC_row {ys : List Int} {W S : Int} {C : Bool} (h0 : askF ys W C S = 0) {r : Nat} (h : r < rwN C W (cellsAll ys).length) : rwC ys W C S r = 0 ∧ rwRes ys W C S r = rowOf C W S r (cellsAll ys) := by
  have e : rwC ys W C S r = 0 := by unfold rwC lnRows; rw [if_neg (by omega), if_neg (by omega)]
  exact ⟨e, by unfold rwRes; rw [if_pos e]⟩
theorem rwC_end {ys : List Int} {W S : Int} {C : Bool} (h0 : askF ys W C S = 0) : rwC ys W C S (rwN C W (cellsAll ys).length : Nat) = 3 := by
  unfold rwC lnRows; rw [if_neg (by omega), if_pos (by omega)]

theorem cellEq (op : BinOp) (x y z p q r : Int) (w : World) : (Op.equalIn 10000 38 (.agg #[.int .i64 x, .int .i64 y, .int .i64 z]) (.agg #[.int .i64 p, .int .i64 q, .int .i64 r])).run Try.prog w = .ok (decide (x = p ∧ y = q ∧ z = r)) w := by
  have u3 := Try.underlying2
  have a3 := Try.isAgg2
  have z3 := Try.sizeOf2
  have hS : Try.prog.underlying 38 = some (.struct (Try.prog.fieldsOf 38)) := by kernel_rfl
  have hp : Try.prog.stoodInHeld 38 = false := by kernel_rfl
  rw [show (10000 : Nat) = 9999 + 1 from rfl, run_equalIn_agg w 9999 38 _ _ hS hp]
  simp only [Program.fieldsOf, Try.underlying38]
  go_simp
  by_cases h1 : x = p <;> by_cases h2 : y = q <;> by_cases h3 : z = r <;> simp [h1, h2, h3]
theorem neqCell (x y z : Int) (w : World) : (binOp .neq 38 (.agg #[.int .i64 x, .int .i64 y, .int .i64 z]) (.agg #[.int .i64 x, .int .i64 y, .int .i64 z])).run Try.prog w = .ok (.bool false) w := by
  rw [run_neq_struct, cellEq .neq, decide_eq_true ⟨rfl, rfl, rfl⟩]; rfl
theorem eqlCell (x y z : Int) (w : World) : (binOp .eql 38 (.agg #[.int .i64 x, .int .i64 y, .int .i64 z]) (.agg #[.int .i64 x, .int .i64 y, .int .i64 z])).run Try.prog w = .ok (.bool true) w := by
  rw [run_eql_struct, cellEq .eql, decide_eq_true ⟨rfl, rfl, rfl⟩]; rfl
theorem guardCell (op : BinOp) (a b : Operand) (x y : Array Value) (w : World) : (eqGuard op 38 a b (.agg x) (.agg y)).run Try.prog w = .ok () w := run_eqGuard_agg w op 38 a b x y (by kernel_rfl)
end Go.Proofs.Ythkgplpdoaebiaa

namespace Go.Proofs.Ythkgplpdoaebiaa
open Go.RowKit
set_option linter.unusedVariables false
set_option linter.unusedSimpArgs false

theorem fldI0r (x y : Value) (w : World) : (Instr.field 29 (.agg #[x, y]) 0).run Try.prog w = .ok x w := by kernel_rfl
theorem fldC0r (x y : Value) (w : World) : (Instr.field 34 (.agg #[x, y]) 0).run Try.prog w = .ok x w := by kernel_rfl

set_option maxRecDepth 20000 in
set_option maxHeartbeats 6400000 in
theorem rowsWalk (a : Option Addr) (n ca : Nat) (xs : List Int) (w : World) (ha : Rd .u8 w a n xs) (hB : Bytes xs) (hm : n ≤ maxLen) :
    Calls Try.prog 3 #[.slice a n ca] w fun e w' => e = .returned (.bool true) ∧ Below w.heap.size w w' := by
  unfold maxLen at hm
  by_cases hn : n ≤ 1048576
  case neg =>
    go_enter Try.func3, Try.ntmps3
    go_wp2_with (go_at_call 11; go_in)
    go_ret
    exact ⟨rfl, Below.refl _ _⟩
  obtain ⟨i0, hi, hz0, hz1, hz2⟩ := info_parts infoC1
  go_enter Try.func3, Try.ntmps3
  have hb : Below w.heap.size w w := Below.refl _ _
  go_wp2_with (go_at_call 11; go_in)
  refine Calls.mono (DrawRowCount_any a n ca xs _ (ha.below hb) hB hn) ?_
  rintro e w1 ⟨v, ys, W, Q, S, rfl, ry, hyl, hyb, hc⟩
  obtain ⟨ay, ky, rfl, hk1, hk2⟩ := ry.shape
  have s1 : w.heap.size ≤ w1.heap.size := hc.size
  have bq := hc
  replace hb := hb.trans (bq.mono hb.size)
  clear hc bq
  have NN := fun w' h => implRowCount_any ay ys.length ky ys W S Q w' h hyb (by omega) hk1 hk2
  have f0 := fldI0r
  have f1 := fldC0r
  clear ha hB hn hm
  by_cases hF : askF ys W Q S = 0
  case neg =>
    have SN := fun w' h => specRowCount_any ay ys.length ky ys W S Q w' h hyb (by omega)
    have IF := fun w' => implLayoutFault_any W S Q w'
    have SF := fun w' => specLayoutFault_any W S Q w'
    obtain ⟨F, hFF⟩ : ∃ F, askF ys W Q S = F := ⟨_, rfl⟩
    rw [hFF] at NN SN hF
    generalize rcVal ys W Q S = V at *
    generalize lyF W Q S = G at *
    have HNN : Hid _ := NN
    have HSN : Hid _ := SN
    have HIF : Hid _ := IF
    have HSF : Hid _ := SF
    clear NN SN IF SF hFF hk1 hk2 hyb
    go_wp2_with fail
    have bp : ∀ o0, Below w1.heap.size w1 (w1.alloc o0) := fun o0 => (Below.refl _ _).alloc (Nat.le_refl _) o0
    have hbt : ∀ o0, Below w.heap.size w (w1.alloc o0) := fun o0 => hb.trans ((bp o0).mono hb.size)
    refine Calls.mono (HNN.out _ (ry.below (bp _)).read) ?_
    rintro e w2 ⟨rfl, hc⟩
    have s2 : w1.heap.size + 1 ≤ w2.heap.size := by have := hc.size; simp at this; omega
    have bq : Below w1.heap.size w1 w2 := (bp _).trans (hc.mono (bp _).size)
    have cL0 : w2.cell? ⟨w1.heap.size, 0, none⟩ = some (.int .i64 W) := cell_later hc (by simp [go_sem])
    have cL1 : w2.cell? ⟨w1.heap.size, 1, none⟩ = some (.bool Q) := cell_later hc (by simp [go_sem])
    have cL2 : w2.cell? ⟨w1.heap.size, 2, none⟩ = some (.int .i64 S) := cell_later hc (by simp [go_sem])
    have zL : w1.heap.size < w2.heap.size := by omega
    replace ry := ry.below bq
    replace hb := hb.trans (bq.mono hb.size)
    clear hc bq bp hbt
    go_wp2_with fail
    have bp : ∀ o0, Below w2.heap.size w2 (w2.alloc o0) := fun o0 => (Below.refl _ _).alloc (Nat.le_refl _) o0
    have hbt : ∀ o0, Below w.heap.size w (w2.alloc o0) := fun o0 => hb.trans ((bp o0).mono hb.size)
    obtain ⟨w3, hw3⟩ : ∃ x, (w2.alloc (.cells #[.int .i64 F, .int .i64 V] 29)) = x := ⟨_, rfl⟩
    have hc : Below ((w2.alloc (.cells #[.int .i64 F, .int .i64 V] 29))).heap.size ((w2.alloc (.cells #[.int .i64 F, .int .i64 V] 29))) w3 := hw3 ▸ Below.refl _ _
    have s3 : w2.heap.size + 1 ≤ w3.heap.size := by have := hc.size; simp at this; omega
    have bq : Below w2.heap.size w2 w3 := (bp _).trans (hc.mono (bp _).size)
    replace cL0 := cell_later bq cL0
    replace cL1 := cell_later bq cL1
    replace cL2 := cell_later bq cL2
    replace zL := Nat.lt_of_lt_of_le zL bq.size
    have cN0 : w3.cell? ⟨w2.heap.size, 0, none⟩ = some (.int .i64 F) := cell_later hc (by simp [go_sem])
    have cN1 : w3.cell? ⟨w2.heap.size, 1, none⟩ = some (.int .i64 V) := cell_later hc (by simp [go_sem])
    have zN : w2.heap.size < w3.heap.size := by omega
    replace ry := ry.below bq
    replace hb := hb.trans (bq.mono hb.size)
    clear hc bq bp hbt
    rw [hw3]
    clear hw3
    have bd : Below w3.heap.size w3 w3.drew := (Below.refl _ _).drew
    refine wp_region_held_drew (S := fun w' => Below w3.heap.size w3 w') (by kernel_rfl) bd (fun hS => ?_)
    obtain ⟨D3, hD⟩ : ∃ D, w3.drew = D := ⟨_, rfl⟩
    rw [hD] at hS bd ⊢
    have hc := bd
    clear hD bd
    have o_cL0 := cL0
    have o_cL1 := cL1
    have o_cL2 := cL2
    have o_cN0 := cN0
    have s4 : w3.heap.size ≤ D3.heap.size := hc.size
    have bq := hc
    replace cL0 := cell_later bq cL0
    replace cL1 := cell_later bq cL1
    replace cL2 := cell_later bq cL2
    replace zL := Nat.lt_of_lt_of_le zL bq.size
    replace cN0 := cell_later bq cN0
    replace cN1 := cell_later bq cN1
    replace zN := Nat.lt_of_lt_of_le zN bq.size
    replace ry := ry.below bq
    replace hb := hb.trans (bq.mono hb.size)
    clear hc bq
    refine wpAnyH_take (i := 0) (v := (.slice ay ys.length ky)) rfl (by as_aux_lemma => kernel_rfl) (by as_aux_lemma => kernel_rfl) (by as_aux_lemma => kernel_rfl) (fun _ _ _ h => h) (Or.inl ⟨by kernel_rfl, ?_⟩) hS ?_
    · intro w hSw; (try dsimp only at hSw); go_simp
    (try simp only [Act.put, List.getElem_toArray, List.getElem_cons_zero, List.getElem_cons_succ, List.setIfInBounds_toArray, List.set_cons_zero, List.set_cons_succ])
    refine wpAnyH_take (i := 1) (v := (.agg #[.int .i64 W, .bool Q, .int .i64 S])) rfl (by as_aux_lemma => kernel_rfl) (by as_aux_lemma => kernel_rfl) (by as_aux_lemma => kernel_rfl) (fun _ _ _ h => h) (Or.inl ⟨by kernel_rfl, ?_⟩) hS ?_
    · intro w hSw; (try dsimp only at hSw); have hl0 := cell_later hSw o_cL0; have hl1 := cell_later hSw o_cL1; have hl2 := cell_later hSw o_cL2; go_simp
    (try simp only [Act.put, List.getElem_toArray, List.getElem_cons_zero, List.getElem_cons_succ, List.setIfInBounds_toArray, List.set_cons_zero, List.set_cons_succ])
    refine wpAnyH_take (i := 4) (v := (.pointer (some ⟨w2.heap.size, 0, none⟩))) rfl (by as_aux_lemma => kernel_rfl) (by as_aux_lemma => kernel_rfl) (by as_aux_lemma => kernel_rfl) (fun _ _ _ h => h) (Or.inl ⟨by kernel_rfl, ?_⟩) hS ?_
    · intro w hSw; (try dsimp only at hSw); go_simp
    (try simp only [Act.put, List.getElem_toArray, List.getElem_cons_zero, List.getElem_cons_succ, List.setIfInBounds_toArray, List.set_cons_zero, List.set_cons_succ])
    refine wpAnyH_take (i := 5) (v := (.int .i64 F)) rfl (by as_aux_lemma => kernel_rfl) (by as_aux_lemma => kernel_rfl) (by as_aux_lemma => kernel_rfl) (fun _ _ _ h => h) (Or.inl ⟨by kernel_rfl, ?_⟩) hS ?_
    · intro w hSw; (try dsimp only at hSw); have hl0 := cell_later hSw o_cN0; go_simp
    (try simp only [Act.put, List.getElem_toArray, List.getElem_cons_zero, List.getElem_cons_succ, List.setIfInBounds_toArray, List.set_cons_zero, List.set_cons_succ])
    refine wpAnyH_ready (rs := [2]) (by as_aux_lemma => kernel_rfl) (by simp) ?_
    refine AllReadyH.cons rfl (fun K hK => ?_) AllReadyH.nil
    go_simp
    refine Calls.mono (HSN.out _ ry.read) ?_
    rintro e w5 ⟨rfl, hc⟩
    refine hK.out _ _ (hS.trans (hc.mono hS.size)) (fun hS => ?_)
    clear hK K
    (try simp only [Act.put, List.getElem_toArray, List.getElem_cons_zero, List.getElem_cons_succ, List.setIfInBounds_toArray, List.set_cons_zero, List.set_cons_succ])
    have s5 : D3.heap.size ≤ w5.heap.size := hc.size
    have bq := hc
    replace cL0 := cell_later bq cL0
    replace cL1 := cell_later bq cL1
    replace cL2 := cell_later bq cL2
    replace zL := Nat.lt_of_lt_of_le zL bq.size
    replace cN0 := cell_later bq cN0
    replace cN1 := cell_later bq cN1
    replace zN := Nat.lt_of_lt_of_le zN bq.size
    replace ry := ry.below bq
    replace hb := hb.trans (bq.mono hb.size)
    clear hc bq
    refine wpAnyH_take (i := 3) (v := (.int .i64 F)) rfl (by as_aux_lemma => kernel_rfl) (by as_aux_lemma => kernel_rfl) (by as_aux_lemma => kernel_rfl) (fun _ _ _ h => h) (Or.inl ⟨by kernel_rfl, ?_⟩) hS ?_
    · intro w hSw; (try dsimp only at hSw); go_simp
    (try simp only [Act.put, List.getElem_toArray, List.getElem_cons_zero, List.getElem_cons_succ, List.setIfInBounds_toArray, List.set_cons_zero, List.set_cons_succ])
    refine wpAnyH_take (i := 6) (v := (.bool true)) rfl (by as_aux_lemma => kernel_rfl) (by as_aux_lemma => kernel_rfl) (by as_aux_lemma => kernel_rfl) (fun _ _ _ h => h) (Or.inl ⟨by kernel_rfl, ?_⟩) hS ?_
    · intro w hSw; (try dsimp only at hSw); go_simp
    (try simp only [Act.put, List.getElem_toArray, List.getElem_cons_zero, List.getElem_cons_succ, List.setIfInBounds_toArray, List.set_cons_zero, List.set_cons_succ])
    refine wpAnyH_take (i := 7) (v := (.bool true)) rfl (by as_aux_lemma => kernel_rfl) (by as_aux_lemma => kernel_rfl) (by as_aux_lemma => kernel_rfl) (fun _ _ _ h => h) (Or.inl ⟨by kernel_rfl, ?_⟩) hS ?_
    · intro w hSw; (try dsimp only at hSw); go_simp
    (try simp only [Act.put, List.getElem_toArray, List.getElem_cons_zero, List.getElem_cons_succ, List.setIfInBounds_toArray, List.set_cons_zero, List.set_cons_succ])
    refine wpAnyH_take (i := 8) (v := (.agg #[.int .i64 W, .bool Q, .int .i64 S])) rfl (by as_aux_lemma => kernel_rfl) (by as_aux_lemma => kernel_rfl) (by as_aux_lemma => kernel_rfl) (fun _ _ _ h => h) (Or.inl ⟨by kernel_rfl, ?_⟩) hS ?_
    · intro w hSw; (try dsimp only at hSw); have hl0 := cell_later hSw o_cL0; have hl1 := cell_later hSw o_cL1; have hl2 := cell_later hSw o_cL2; go_simp
    (try simp only [Act.put, List.getElem_toArray, List.getElem_cons_zero, List.getElem_cons_succ, List.setIfInBounds_toArray, List.set_cons_zero, List.set_cons_succ])
    refine wpAnyH_take (i := 10) (v := (.agg #[.int .i64 W, .bool Q, .int .i64 S])) rfl (by as_aux_lemma => kernel_rfl) (by as_aux_lemma => kernel_rfl) (by as_aux_lemma => kernel_rfl) (fun _ _ _ h => h) (Or.inl ⟨by kernel_rfl, ?_⟩) hS ?_
    · intro w hSw; (try dsimp only at hSw); have hl0 := cell_later hSw o_cL0; have hl1 := cell_later hSw o_cL1; have hl2 := cell_later hSw o_cL2; go_simp
    (try simp only [Act.put, List.getElem_toArray, List.getElem_cons_zero, List.getElem_cons_succ, List.setIfInBounds_toArray, List.set_cons_zero, List.set_cons_succ])
    refine wpAnyH_ready (rs := [9]) (by as_aux_lemma => kernel_rfl) (by simp) ?_
    refine AllReadyH.cons rfl (fun K hK => ?_) AllReadyH.nil
    go_simp
    refine Calls.mono (HIF.out _) ?_
    rintro e w6 ⟨rfl, hc⟩
    refine hK.out _ _ (hS.trans (hc.mono hS.size)) (fun hS => ?_)
    clear hK K
    (try simp only [Act.put, List.getElem_toArray, List.getElem_cons_zero, List.getElem_cons_succ, List.setIfInBounds_toArray, List.set_cons_zero, List.set_cons_succ])
    have s6 : w5.heap.size ≤ w6.heap.size := hc.size
    have bq := hc
    replace cL0 := cell_later bq cL0
    replace cL1 := cell_later bq cL1
    replace cL2 := cell_later bq cL2
    replace zL := Nat.lt_of_lt_of_le zL bq.size
    replace cN0 := cell_later bq cN0
    replace cN1 := cell_later bq cN1
    replace zN := Nat.lt_of_lt_of_le zN bq.size
    replace ry := ry.below bq
    replace hb := hb.trans (bq.mono hb.size)
    clear hc bq
    refine wpAnyH_ready (rs := [11]) (by as_aux_lemma => kernel_rfl) (by simp) ?_
    refine AllReadyH.cons rfl (fun K hK => ?_) AllReadyH.nil
    go_simp
    refine Calls.mono (HSF.out _) ?_
    rintro e w7 ⟨rfl, hc⟩
    refine hK.out _ _ (hS.trans (hc.mono hS.size)) (fun hS => ?_)
    clear hK K
    (try simp only [Act.put, List.getElem_toArray, List.getElem_cons_zero, List.getElem_cons_succ, List.setIfInBounds_toArray, List.set_cons_zero, List.set_cons_succ])
    have s7 : w6.heap.size ≤ w7.heap.size := hc.size
    have bq := hc
    replace cL0 := cell_later bq cL0
    replace cL1 := cell_later bq cL1
    replace cL2 := cell_later bq cL2
    replace zL := Nat.lt_of_lt_of_le zL bq.size
    replace cN0 := cell_later bq cN0
    replace cN1 := cell_later bq cN1
    replace zN := Nat.lt_of_lt_of_le zN bq.size
    replace ry := ry.below bq
    replace hb := hb.trans (bq.mono hb.size)
    clear hc bq
    refine wpAnyH_take (i := 12) (v := (.bool true)) rfl (by as_aux_lemma => kernel_rfl) (by as_aux_lemma => kernel_rfl) (by as_aux_lemma => kernel_rfl) (fun _ _ _ h => h) (Or.inl ⟨by kernel_rfl, ?_⟩) hS ?_
    · intro w hSw; (try dsimp only at hSw); go_simp
    (try simp only [Act.put, List.getElem_toArray, List.getElem_cons_zero, List.getElem_cons_succ, List.setIfInBounds_toArray, List.set_cons_zero, List.set_cons_succ])
    refine wpAnyH_take (i := 13) (v := (.bool true)) rfl (by as_aux_lemma => kernel_rfl) (by as_aux_lemma => kernel_rfl) (by as_aux_lemma => kernel_rfl) (fun _ _ _ h => h) (Or.inl ⟨by kernel_rfl, ?_⟩) hS ?_
    · intro w hSw; (try dsimp only at hSw); go_simp
    (try simp only [Act.put, List.getElem_toArray, List.getElem_cons_zero, List.getElem_cons_succ, List.setIfInBounds_toArray, List.set_cons_zero, List.set_cons_succ])
    refine wpAnyH_take (i := 14) (v := (.bool true)) rfl (by as_aux_lemma => kernel_rfl) (by as_aux_lemma => kernel_rfl) (by as_aux_lemma => kernel_rfl) (fun _ _ _ h => h) (Or.inl ⟨by kernel_rfl, ?_⟩) hS ?_
    · intro w hSw; (try dsimp only at hSw); go_simp
    (try simp only [Act.put, List.getElem_toArray, List.getElem_cons_zero, List.getElem_cons_succ, List.setIfInBounds_toArray, List.set_cons_zero, List.set_cons_succ])
    refine wpAnyH_done (by kernel_rfl) ?_ _
    clear o_cL0
    clear o_cL1
    clear o_cL2
    clear o_cN0
    go_wp2
    go_ret
    exact ⟨rfl, hb⟩
  obtain ⟨hLy, hn4⟩ := askF_ok hF
  obtain ⟨hW, hW2, hS, hS2, -⟩ := lyF_ok hLy
  have hNV : rcVal ys W Q S = (rwN Q W (cellsAll ys).length : Nat) := by unfold rcVal lnRows; rw [if_pos hF]
  rw [hF, hNV] at NN
  have RC0 := fun R w' h => implRowCells_any ay ys.length ky ys W S R Q w' h hyb (by omega) hk1 hk2
  have CC := fun w' h => implCellsOf_any ay ys.length ky ys w' h hyb (by omega) hk1 hk2
  rw [show cellsCode ys = 0 by unfold cellsCode; rw [if_neg (by omega)], show cellsRes ys = cellsAll ys by unfold cellsRes; rw [if_neg (by omega)]] at CC
  have RC := fun (r : Nat) (hr : r < rwN Q W (cellsAll ys).length) w' h => by have := RC0 (r : Int) w' h; rw [(rwC_row hF hr).1, (rwC_row hF hr).2] at this; exact this
  have RE := RC0 (rwN Q W (cellsAll ys).length : Nat)
  rw [rwC_end hF] at RE
  generalize rwRes ys W Q S (rwN Q W (cellsAll ys).length : Nat) = re at *
  have hK := cellsAll_len hyb
  have hNp := rwN_pos (C := Q) (n := (cellsAll ys).length) hW
  have hNle := rwN_le (C := Q) (n := (cellsAll ys).length) hW
  generalize cellsAll ys = cs at *
  have HLN := hid (fun (r : Nat) (hr : r < rwN Q W cs.length) => lens (S := S) hW hS hr)
  have HNR : Hid (Hid (rwN Q W cs.length = rwN Q W cs.length)) := rfl
  obtain ⟨NR, hNR⟩ : ∃ NR, NR = rwN Q W cs.length := ⟨_, rfl⟩
  rw [← hNR] at NN RC RE hNp hNle HLN
  have HNR2 := hid hNR
  have HNN : Hid _ := NN
  have HRC : Hid _ := RC
  have HRE : Hid _ := RE
  have HCC : Hid _ := CC
  obtain ⟨K0, hK0⟩ : ∃ K0, cs.length = K0 := ⟨_, rfl⟩
  rw [hK0] at hK hNle
  have hKb : K0 ≤ 1600 := by omega
  have HK := hid hK0
  clear NN RC RE CC RC0 hF hNV hLy hk1 hk2 hyb hK hNR HNR hK0
  go_wp2_with fail
  have bp : ∀ o0, Below w1.heap.size w1 (w1.alloc o0) := fun o0 => (Below.refl _ _).alloc (Nat.le_refl _) o0
  have hbt : ∀ o0, Below w.heap.size w (w1.alloc o0) := fun o0 => hb.trans ((bp o0).mono hb.size)
  refine Calls.mono (HNN.out _ (ry.below (bp _)).read) ?_
  rintro e w2 ⟨rfl, hc⟩
  have s2 : w1.heap.size + 1 ≤ w2.heap.size := by have := hc.size; simp at this; omega
  have bq : Below w1.heap.size w1 w2 := (bp _).trans (hc.mono (bp _).size)
  have cL0 : w2.cell? ⟨w1.heap.size, 0, none⟩ = some (.int .i64 W) := cell_later hc (by simp [go_sem])
  have cL1 : w2.cell? ⟨w1.heap.size, 1, none⟩ = some (.bool Q) := cell_later hc (by simp [go_sem])
  have cL2 : w2.cell? ⟨w1.heap.size, 2, none⟩ = some (.int .i64 S) := cell_later hc (by simp [go_sem])
  have zL : w1.heap.size < w2.heap.size := by omega
  replace ry := ry.below bq
  replace hb := hb.trans (bq.mono hb.size)
  clear hc bq bp hbt
  go_wp2
  have bp : ∀ o0, Below w2.heap.size w2 (w2.alloc o0) := fun o0 => (Below.refl _ _).alloc (Nat.le_refl _) o0
  have hbt : ∀ o0, Below w.heap.size w (w2.alloc o0) := fun o0 => hb.trans ((bp o0).mono hb.size)
  obtain ⟨w3, hw3⟩ : ∃ x, (w2.alloc (.cells #[.int .i64 0, .int .i64 (NR : Nat)] 29)) = x := ⟨_, rfl⟩
  have hc : Below ((w2.alloc (.cells #[.int .i64 0, .int .i64 (NR : Nat)] 29))).heap.size ((w2.alloc (.cells #[.int .i64 0, .int .i64 (NR : Nat)] 29))) w3 := hw3 ▸ Below.refl _ _
  have s3 : w2.heap.size + 1 ≤ w3.heap.size := by have := hc.size; simp at this; omega
  have bq : Below w2.heap.size w2 w3 := (bp _).trans (hc.mono (bp _).size)
  replace cL0 := cell_later bq cL0
  replace cL1 := cell_later bq cL1
  replace cL2 := cell_later bq cL2
  replace zL := Nat.lt_of_lt_of_le zL bq.size
  have cN0 : w3.cell? ⟨w2.heap.size, 0, none⟩ = some (.int .i64 0) := cell_later hc (by simp [go_sem])
  have cN1 : w3.cell? ⟨w2.heap.size, 1, none⟩ = some (.int .i64 (NR : Nat)) := cell_later hc (by simp [go_sem])
  have zN : w2.heap.size < w3.heap.size := by omega
  replace ry := ry.below bq
  replace hb := hb.trans (bq.mono hb.size)
  clear hc bq bp hbt
  have hz3 := hid (show w3.heap.size = w2.heap.size + 1 by rw [← hw3]; simp)
  rw [hw3]
  clear hw3
  have hE := own_emptyC w3 w3.heap.size (Nat.le_refl _)
  have HW := hid (And.intro cL0 (And.intro cL1 (And.intro cL2 (And.intro cN0 (And.intro cN1 ry)))))
  clear cL0 cL1 cL2 cN0 cN1 ry
  go_loopw [6, 7] (fun v i wr => ∃ r : Nat, r ≤ NR ∧ i = .int .i64 r ∧ OwnR cellE 3 38 wr w3.heap.size v (allR Q W S cs r).length (allR Q W S cs r) ∧ Below w3.heap.size w3 wr) (fun _ i _ => NR - (intOf i).toNat)
  case atStart => exact ⟨0, Nat.zero_le _, rfl, by rw [← hz3.out]; simpa [allR] using hE, (Below.refl _ _).alloc (Nat.le_refl _) _⟩
  case round =>
    clear hE
    obtain ⟨r, hr, rfl, hO, hbr⟩ := hrel
    have cL0 := cell_later hbr HW.out.1
    have cL1 := cell_later hbr HW.out.2.1
    have cL2 := cell_later hbr HW.out.2.2.1
    have cN0 := cell_later hbr HW.out.2.2.2.1
    have cN1 := cell_later hbr HW.out.2.2.2.2.1
    have ry := HW.out.2.2.2.2.2.below hbr
    by_cases hlt : r < NR
    · have hlt' : (r : Int) < (NR : Int) := by omega
      obtain ⟨hm1, hm2⟩ := HLN.out r hlt
      have RC := HRC.out r hlt
      have HST := hid (show allR Q W S cs (r + 1) = allR Q W S cs r ++ rowOf Q W S (r : Int) cs from rfl)
      have hmk := rowOf_le Q W S (r : Int) cs
      have hal := allR_le Q W S cs r
      rw [HK.out] at hmk hal
      have hal2 : r * K0 ≤ 1601 * 1600 := Nat.mul_le_mul (by omega) (by omega)
      have hHb : (allR Q W S cs r).length ≤ 2561600 := by omega
      clear hal hal2
      generalize rowOf Q W S (r : Int) cs = row at *
      generalize hml : row.length = m at *
      generalize hHL : (allR Q W S cs r).length = HL at *
      have HRW : Hid _ := RC
      have HO := hid hO
      have HML := hid hml
      have HHL := hid hHL
      clear RC hO hml hHL
      have hgt : ¬ W < (m : Int) := by omega
      have hs3 := hbr.size
      by_cases hnx : r + 1 < NR
      · have hx1 : (r : Int) + 1 < (NR : Int) := by omega
        have hx2 : (m : Int) = W := hm2 hnx
        go_wp2_with fail
        refine Calls.mono (HRW.out _ ry.read) ?_
        rintro e w5 ⟨v5, rfl, r5, hc⟩
        obtain ⟨a5, k5, rfl⟩ := r5.shape
        have hO5 := HO.out.below hc
        have hb5 := hbr.trans (hc.mono hs3)
        replace cL0 := cell_later hc cL0
        replace cL1 := cell_later hc cL1
        replace cL2 := cell_later hc cL2
        replace cN0 := cell_later hc cN0
        replace cN1 := cell_later hc cN1
        have ba : Below w5.heap.size w5 (w5.alloc (.cells #[.int .i64 0, .slice a5 m k5] 34)) := (Below.refl _ _).alloc (Nat.le_refl _) _
        have hO6 := hO5.below ba
        have hr6 := RowO.read cellE_len (r5.below ba)
        have hb6 := hb5.trans (ba.mono hb5.size)
        have zL5 := World.block_lt_of_cell? _ _ cL0
        have zN5 := World.block_lt_of_cell? _ _ cN0
        simp only at zL5 zN5
        clear hc ry
        go_wp2_with (at_builtin; refine wpList_append_rdR rfl cellE_len cellE_one2 _ _ 32 rfl w3.heap.size 38 i0 _ 24 Try.underlying32 hi hz0 hz1 hz2 rfl (by decide) _ HL _ rfl hO6 a5 m k5 row rfl hr6 (by unfold maxLen; omega) (by omega) hb6.size ?_)
        intro v7 w7 hO7 hg7
        have hb7 := hb6.grown hg7 hb6.size (fun j hj => (hO6.lt j hj).1)
        have hHS : (allR Q W S cs (r + 1)).length = HL + m := by rw [HST.out, List.length_append, HHL.out, HML.out]
        rw [← HST.out, ← hHS] at hO7
        have HO7 := hid hO7
        clear hO5 hb5 ba hO6 hr6 hb6 hg7 hO7 hHS r5
        go_wp2
        go_roundw
        case rel => exact ⟨r + 1, by omega, by go_num, HO7.out, hb7⟩
        case measure => simp [intOf]; omega
      · have hx1 : ¬ (r : Int) + 1 < (NR : Int) := by omega
        clear hm2
        go_wp2_with fail
        refine Calls.mono (HRW.out _ ry.read) ?_
        rintro e w5 ⟨v5, rfl, r5, hc⟩
        obtain ⟨a5, k5, rfl⟩ := r5.shape
        have hO5 := HO.out.below hc
        have hb5 := hbr.trans (hc.mono hs3)
        replace cL0 := cell_later hc cL0
        replace cL1 := cell_later hc cL1
        replace cL2 := cell_later hc cL2
        replace cN0 := cell_later hc cN0
        replace cN1 := cell_later hc cN1
        have ba : Below w5.heap.size w5 (w5.alloc (.cells #[.int .i64 0, .slice a5 m k5] 34)) := (Below.refl _ _).alloc (Nat.le_refl _) _
        have hO6 := hO5.below ba
        have hr6 := RowO.read cellE_len (r5.below ba)
        have hb6 := hb5.trans (ba.mono hb5.size)
        have zL5 := World.block_lt_of_cell? _ _ cL0
        have zN5 := World.block_lt_of_cell? _ _ cN0
        simp only at zL5 zN5
        clear hc ry
        go_wp2_with (at_builtin; refine wpList_append_rdR rfl cellE_len cellE_one2 _ _ 32 rfl w3.heap.size 38 i0 _ 24 Try.underlying32 hi hz0 hz1 hz2 rfl (by decide) _ HL _ rfl hO6 a5 m k5 row rfl hr6 (by unfold maxLen; omega) (by omega) hb6.size ?_)
        intro v7 w7 hO7 hg7
        have hb7 := hb6.grown hg7 hb6.size (fun j hj => (hO6.lt j hj).1)
        have hHS : (allR Q W S cs (r + 1)).length = HL + m := by rw [HST.out, List.length_append, HHL.out, HML.out]
        rw [← HST.out, ← hHS] at hO7
        have HO7 := hid hO7
        clear hO5 hb5 ba hO6 hr6 hb6 hg7 hO7 hHS r5
        go_wp2
        go_roundw
        case rel => exact ⟨r + 1, by omega, by go_num, HO7.out, hb7⟩
        case measure => simp [intOf]; omega
    · have e : NR = r := by omega
      subst e
      have hlt' : ¬ (NR : Int) < (NR : Int) := by omega
      have hal := allR_le Q W S cs NR
      rw [HK.out] at hal
      have hal2 : NR * K0 ≤ 1601 * 1600 := Nat.mul_le_mul (by omega) (by omega)
      have hHb : (allR Q W S cs NR).length ≤ 2561600 := by omega
      clear hal hal2
      replace hb := hb.trans (hbr.mono hb.size)
      have zL := World.block_lt_of_cell? _ _ cL0
      have zN := World.block_lt_of_cell? _ _ cN0
      simp only at zL zN
      have rA := hO
      obtain ⟨aA, kA, rfl, -⟩ := rA.rd cellE_len
      clear hO
      go_wp2_with fail
      refine Calls.mono (HCC.out _ ry.read) ?_
      rintro e w11 ⟨vC, rfl, rC, hc⟩
      obtain ⟨aC, kC, rfl, -⟩ := rC.rd cellE_len
      have s11 : wr.heap.size ≤ w11.heap.size := hc.size
      have bq := hc
      replace cL0 := cell_later bq cL0
      replace cL1 := cell_later bq cL1
      replace cL2 := cell_later bq cL2
      replace zL := Nat.lt_of_lt_of_le zL bq.size
      replace cN0 := cell_later bq cN0
      replace cN1 := cell_later bq cN1
      replace zN := Nat.lt_of_lt_of_le zN bq.size
      replace ry := ry.below bq
      replace rA := rA.below bq
      replace hb := hb.trans (bq.mono hb.size)
      clear hc bq
      have hKc := HK.out
      rw [hKc] at rC
      cases Q
      case true =>
        have hN1 : NR = 1 := by rw [HNR2.out]; simp [rwN]
        have hal1 : allR true W S cs NR = rowOf true W S 0 cs := by rw [hN1]; rfl
        rw [hal1] at rA hHb ⊢
        obtain ⟨d, rfl⟩ : ∃ d : Nat, W = (d : Int) := ⟨W.toNat, by omega⟩
        obtain ⟨s, rfl⟩ : ∃ s : Nat, S = (s : Int) := ⟨S.toNat, by omega⟩
        have hN1' : (NR : Int) = 1 := by omega
        by_cases hks : s < K0
        · obtain ⟨l1, l2⟩ := (len_c (cs := cs) (d := d) (s := s) (R := 0)).2 (by omega) (by omega)
          have hks' : (s : Int) < (K0 : Int) := by omega
          generalize rowOf true (d : Int) (s : Int) 0 cs = row at *
          generalize hml : row.length = m at *
          obtain ⟨gA, oA, u, haA, hu, hcA⟩ := (rA.read cellE_len).at (show 0 < m by omega)
          obtain ⟨gC, oC, u2, haC, hu2, hcC⟩ := (rC.read cellE_len).at hks
          rw [hu, hu2] at l2
          obtain rfl := Option.some.inj l2
          subst haA haC
          obtain ⟨ux, uy, uz⟩ := u
          have cu0 := hcA 0 _ rfl
          have cu1 := hcA 1 _ rfl
          have cu2 := hcA 2 _ rfl
          have cv0 := hcC 0 _ rfl
          have cv1 := hcC 1 _ rfl
          have cv2 := hcC 2 _ rfl
          simp only [Nat.zero_mul, Nat.add_zero] at cu0 cu1 cu2 cv0
          have hm0 : ¬ (m : Int) = 0 := by omega
          have hmn : ¬ m = 0 := by omega
          have hm1 : ((m : Int) == 0) = false := by simp; omega
          have hmp : (0 : Int) < (m : Int) := by omega
          have hsi : (s : Int) < (K0 : Int) := by omega
          have hg := guardCell
          have q1 := eqlCell ux uy uz
          clear hcA hcC l1 hu hu2 hml
          have bsx : Below w11.heap.size w11 (w11.alloc (.cells #[.int .i64 0, .slice (some ⟨gC, oC, none⟩) K0 kC] 34)) := (Below.refl _ _).alloc (Nat.le_refl _) _
          replace cu0 := cell_later bsx cu0
          replace cu1 := cell_later bsx cu1
          replace cu2 := cell_later bsx cu2
          replace cv0 := cell_later bsx cv0
          replace cv1 := cell_later bsx cv1
          replace cv2 := cell_later bsx cv2
          clear bsx
          go_wp2_with fail
          have bp : ∀ o0, Below w11.heap.size w11 (w11.alloc o0) := fun o0 => (Below.refl _ _).alloc (Nat.le_refl _) o0
          have hbt : ∀ o0, Below w.heap.size w (w11.alloc o0) := fun o0 => hb.trans ((bp o0).mono hb.size)
          obtain ⟨w12, hw12⟩ : ∃ x, (w11.alloc (.cells #[.int .i64 0, .slice (some ⟨gC, oC, none⟩) K0 kC] 34)) = x := ⟨_, rfl⟩
          have hc : Below ((w11.alloc (.cells #[.int .i64 0, .slice (some ⟨gC, oC, none⟩) K0 kC] 34))).heap.size ((w11.alloc (.cells #[.int .i64 0, .slice (some ⟨gC, oC, none⟩) K0 kC] 34))) w12 := hw12 ▸ Below.refl _ _
          have s12 : w11.heap.size + 1 ≤ w12.heap.size := by have := hc.size; simp at this; omega
          have bq : Below w11.heap.size w11 w12 := (bp _).trans (hc.mono (bp _).size)
          replace cL0 := cell_later bq cL0
          replace cL1 := cell_later bq cL1
          replace cL2 := cell_later bq cL2
          replace zL := Nat.lt_of_lt_of_le zL bq.size
          replace cN0 := cell_later bq cN0
          replace cN1 := cell_later bq cN1
          replace zN := Nat.lt_of_lt_of_le zN bq.size
          have cC0 : w12.cell? ⟨w11.heap.size, 0, none⟩ = some (.int .i64 0) := cell_later hc (by simp [go_sem])
          have cC1 : w12.cell? ⟨w11.heap.size, 1, none⟩ = some (.slice (some ⟨gC, oC, none⟩) K0 kC) := cell_later hc (by simp [go_sem])
          have zC : w11.heap.size < w12.heap.size := by omega
          replace ry := ry.below bq
          replace rA := rA.below bq
          replace rC := rC.below bq
          replace hb := hb.trans (bq.mono hb.size)
          clear hc bq bp hbt
          rw [hw12]
          rw [hw12] at cu0 cu1 cu2 cv0 cv1 cv2
          clear hw12
          have bd : Below w12.heap.size w12 w12.drew := (Below.refl _ _).drew
          refine wp_region_held_drew (S := fun w' => Below w12.heap.size w12 w') (by kernel_rfl) bd (fun hS => ?_)
          obtain ⟨D12, hD⟩ : ∃ D, w12.drew = D := ⟨_, rfl⟩
          rw [hD] at hS bd ⊢
          have hc := bd
          clear hD bd
          have o_cC1 := cC1
          have o_cL2 := cL2
          have o_cu0 := cu0
          have o_cu1 := cu1
          have o_cu2 := cu2
          have o_cv0 := cv0
          have o_cv1 := cv1
          have o_cv2 := cv2
          have s13 : w12.heap.size ≤ D12.heap.size := hc.size
          have bq := hc
          replace cL0 := cell_later bq cL0
          replace cL1 := cell_later bq cL1
          replace cL2 := cell_later bq cL2
          replace zL := Nat.lt_of_lt_of_le zL bq.size
          replace cN0 := cell_later bq cN0
          replace cN1 := cell_later bq cN1
          replace zN := Nat.lt_of_lt_of_le zN bq.size
          replace cC0 := cell_later bq cC0
          replace cC1 := cell_later bq cC1
          replace zC := Nat.lt_of_lt_of_le zC bq.size
          replace ry := ry.below bq
          replace rA := rA.below bq
          replace rC := rC.below bq
          replace hb := hb.trans (bq.mono hb.size)
          clear hc bq
          refine wpAnyH_take (i := 0) (v := (.slice (some ⟨gA, oA, none⟩) m kA)) rfl (by as_aux_lemma => kernel_rfl) (by as_aux_lemma => kernel_rfl) (by as_aux_lemma => kernel_rfl) (fun _ _ _ h => h) (Or.inl ⟨by kernel_rfl, ?_⟩) hS ?_
          · intro w hSw; (try dsimp only at hSw); go_simp
          (try simp only [Act.put, List.getElem_toArray, List.getElem_cons_zero, List.getElem_cons_succ, List.setIfInBounds_toArray, List.set_cons_zero, List.set_cons_succ])
          refine wpAnyH_take (i := 1) (v := (.int .i64 (m : Int))) rfl (by as_aux_lemma => kernel_rfl) (by as_aux_lemma => kernel_rfl) (by as_aux_lemma => kernel_rfl) (fun _ _ _ h => h) (Or.inl ⟨by kernel_rfl, ?_⟩) hS ?_
          · intro w hSw; (try dsimp only at hSw); go_simp
          (try simp only [Act.put, List.getElem_toArray, List.getElem_cons_zero, List.getElem_cons_succ, List.setIfInBounds_toArray, List.set_cons_zero, List.set_cons_succ])
          refine wpAnyH_take (i := 2) (v := (.bool false)) rfl (by as_aux_lemma => kernel_rfl) (by as_aux_lemma => kernel_rfl) (by as_aux_lemma => kernel_rfl) (fun _ _ _ h => h) (Or.inl ⟨by kernel_rfl, ?_⟩) hS ?_
          · intro w hSw; (try dsimp only at hSw); go_simp
          (try simp only [Act.put, List.getElem_toArray, List.getElem_cons_zero, List.getElem_cons_succ, List.setIfInBounds_toArray, List.set_cons_zero, List.set_cons_succ])
          refine wpAnyH_take (i := 3) (v := (.bool false)) rfl (by as_aux_lemma => kernel_rfl) (by as_aux_lemma => kernel_rfl) (by as_aux_lemma => kernel_rfl) (fun _ _ _ h => h) (Or.inl ⟨by kernel_rfl, ?_⟩) hS ?_
          · intro w hSw; (try dsimp only at hSw); go_simp
          (try simp only [Act.put, List.getElem_toArray, List.getElem_cons_zero, List.getElem_cons_succ, List.setIfInBounds_toArray, List.set_cons_zero, List.set_cons_succ])
          refine wpAnyH_take (i := 4) (v := (.pointer (some ⟨w11.heap.size, 1, none⟩))) rfl (by as_aux_lemma => kernel_rfl) (by as_aux_lemma => kernel_rfl) (by as_aux_lemma => kernel_rfl) (fun _ _ _ h => h) (Or.inl ⟨by kernel_rfl, ?_⟩) hS ?_
          · intro w hSw; (try dsimp only at hSw); go_simp
          (try simp only [Act.put, List.getElem_toArray, List.getElem_cons_zero, List.getElem_cons_succ, List.setIfInBounds_toArray, List.set_cons_zero, List.set_cons_succ])
          refine wpAnyH_take (i := 5) (v := (.slice (some ⟨gC, oC, none⟩) K0 kC)) rfl (by as_aux_lemma => kernel_rfl) (by as_aux_lemma => kernel_rfl) (by as_aux_lemma => kernel_rfl) (fun _ _ _ h => h) (Or.inl ⟨by kernel_rfl, ?_⟩) hS ?_
          · intro w hSw; (try dsimp only at hSw); have hl0 := cell_later hSw o_cC1; go_simp
          (try simp only [Act.put, List.getElem_toArray, List.getElem_cons_zero, List.getElem_cons_succ, List.setIfInBounds_toArray, List.set_cons_zero, List.set_cons_succ])
          refine wpAnyH_take (i := 6) (v := (.int .i64 (K0 : Int))) rfl (by as_aux_lemma => kernel_rfl) (by as_aux_lemma => kernel_rfl) (by as_aux_lemma => kernel_rfl) (fun _ _ _ h => h) (Or.inl ⟨by kernel_rfl, ?_⟩) hS ?_
          · intro w hSw; (try dsimp only at hSw); go_simp
          (try simp only [Act.put, List.getElem_toArray, List.getElem_cons_zero, List.getElem_cons_succ, List.setIfInBounds_toArray, List.set_cons_zero, List.set_cons_succ])
          refine wpAnyH_take (i := 7) (v := (.pointer (some ⟨w1.heap.size, 2, none⟩))) rfl (by as_aux_lemma => kernel_rfl) (by as_aux_lemma => kernel_rfl) (by as_aux_lemma => kernel_rfl) (fun _ _ _ h => h) (Or.inl ⟨by kernel_rfl, ?_⟩) hS ?_
          · intro w hSw; (try dsimp only at hSw); go_simp
          (try simp only [Act.put, List.getElem_toArray, List.getElem_cons_zero, List.getElem_cons_succ, List.setIfInBounds_toArray, List.set_cons_zero, List.set_cons_succ])
          refine wpAnyH_take (i := 8) (v := (.int .i64 (s : Int))) rfl (by as_aux_lemma => kernel_rfl) (by as_aux_lemma => kernel_rfl) (by as_aux_lemma => kernel_rfl) (fun _ _ _ h => h) (Or.inl ⟨by kernel_rfl, ?_⟩) hS ?_
          · intro w hSw; (try dsimp only at hSw); have hl0 := cell_later hSw o_cL2; go_simp
          (try simp only [Act.put, List.getElem_toArray, List.getElem_cons_zero, List.getElem_cons_succ, List.setIfInBounds_toArray, List.set_cons_zero, List.set_cons_succ])
          refine wpAnyH_take (i := 9) (v := (.bool true)) rfl (by as_aux_lemma => kernel_rfl) (by as_aux_lemma => kernel_rfl) (by as_aux_lemma => kernel_rfl) (fun _ _ _ h => h) (Or.inl ⟨by kernel_rfl, ?_⟩) hS ?_
          · intro w hSw; (try dsimp only at hSw); go_simp
          (try simp only [Act.put, List.getElem_toArray, List.getElem_cons_zero, List.getElem_cons_succ, List.setIfInBounds_toArray, List.set_cons_zero, List.set_cons_succ])
          refine wpAnyH_take (i := 10) (v := (.bool true)) rfl (by as_aux_lemma => kernel_rfl) (by as_aux_lemma => kernel_rfl) (by as_aux_lemma => kernel_rfl) (fun _ _ _ h => h) (Or.inl ⟨by kernel_rfl, ?_⟩) hS ?_
          · intro w hSw; (try dsimp only at hSw); go_simp
          (try simp only [Act.put, List.getElem_toArray, List.getElem_cons_zero, List.getElem_cons_succ, List.setIfInBounds_toArray, List.set_cons_zero, List.set_cons_succ])
          refine wpAnyH_take (i := 11) (v := (.slice (some ⟨gA, oA, none⟩) m kA)) rfl (by as_aux_lemma => kernel_rfl) (by as_aux_lemma => kernel_rfl) (by as_aux_lemma => kernel_rfl) (fun _ _ _ h => h) (Or.inl ⟨by kernel_rfl, ?_⟩) hS ?_
          · intro w hSw; (try dsimp only at hSw); go_simp
          (try simp only [Act.put, List.getElem_toArray, List.getElem_cons_zero, List.getElem_cons_succ, List.setIfInBounds_toArray, List.set_cons_zero, List.set_cons_succ])
          refine wpAnyH_take (i := 12) (v := (.pointer (some ⟨gA, oA, none⟩))) rfl (by as_aux_lemma => kernel_rfl) (by as_aux_lemma => kernel_rfl) (by as_aux_lemma => kernel_rfl) (fun _ _ _ h => h) (Or.inl ⟨by kernel_rfl, ?_⟩) hS ?_
          · intro w hSw; (try dsimp only at hSw); go_simp
          (try simp only [Act.put, List.getElem_toArray, List.getElem_cons_zero, List.getElem_cons_succ, List.setIfInBounds_toArray, List.set_cons_zero, List.set_cons_succ])
          refine wpAnyH_take (i := 13) (v := (.agg #[.int .i64 ux, .int .i64 uy, .int .i64 uz])) rfl (by as_aux_lemma => kernel_rfl) (by as_aux_lemma => kernel_rfl) (by as_aux_lemma => kernel_rfl) (fun _ _ _ h => h) (Or.inl ⟨by kernel_rfl, ?_⟩) hS ?_
          · intro w hSw; (try dsimp only at hSw); have hl0 := cell_later hSw o_cu0; have hl1 := cell_later hSw o_cu1; have hl2 := cell_later hSw o_cu2; go_simp
          (try simp only [Act.put, List.getElem_toArray, List.getElem_cons_zero, List.getElem_cons_succ, List.setIfInBounds_toArray, List.set_cons_zero, List.set_cons_succ])
          refine wpAnyH_take (i := 14) (v := (.pointer (some ⟨w11.heap.size, 1, none⟩))) rfl (by as_aux_lemma => kernel_rfl) (by as_aux_lemma => kernel_rfl) (by as_aux_lemma => kernel_rfl) (fun _ _ _ h => h) (Or.inl ⟨by kernel_rfl, ?_⟩) hS ?_
          · intro w hSw; (try dsimp only at hSw); go_simp
          (try simp only [Act.put, List.getElem_toArray, List.getElem_cons_zero, List.getElem_cons_succ, List.setIfInBounds_toArray, List.set_cons_zero, List.set_cons_succ])
          refine wpAnyH_take (i := 15) (v := (.slice (some ⟨gC, oC, none⟩) K0 kC)) rfl (by as_aux_lemma => kernel_rfl) (by as_aux_lemma => kernel_rfl) (by as_aux_lemma => kernel_rfl) (fun _ _ _ h => h) (Or.inl ⟨by kernel_rfl, ?_⟩) hS ?_
          · intro w hSw; (try dsimp only at hSw); have hl0 := cell_later hSw o_cC1; go_simp
          (try simp only [Act.put, List.getElem_toArray, List.getElem_cons_zero, List.getElem_cons_succ, List.setIfInBounds_toArray, List.set_cons_zero, List.set_cons_succ])
          refine wpAnyH_take (i := 16) (v := (.pointer (some ⟨w1.heap.size, 2, none⟩))) rfl (by as_aux_lemma => kernel_rfl) (by as_aux_lemma => kernel_rfl) (by as_aux_lemma => kernel_rfl) (fun _ _ _ h => h) (Or.inl ⟨by kernel_rfl, ?_⟩) hS ?_
          · intro w hSw; (try dsimp only at hSw); go_simp
          (try simp only [Act.put, List.getElem_toArray, List.getElem_cons_zero, List.getElem_cons_succ, List.setIfInBounds_toArray, List.set_cons_zero, List.set_cons_succ])
          refine wpAnyH_take (i := 17) (v := (.int .i64 (s : Int))) rfl (by as_aux_lemma => kernel_rfl) (by as_aux_lemma => kernel_rfl) (by as_aux_lemma => kernel_rfl) (fun _ _ _ h => h) (Or.inl ⟨by kernel_rfl, ?_⟩) hS ?_
          · intro w hSw; (try dsimp only at hSw); have hl0 := cell_later hSw o_cL2; go_simp
          (try simp only [Act.put, List.getElem_toArray, List.getElem_cons_zero, List.getElem_cons_succ, List.setIfInBounds_toArray, List.set_cons_zero, List.set_cons_succ])
          refine wpAnyH_take (i := 18) (v := (.pointer (some ⟨gC, oC + s * 3, none⟩))) rfl (by as_aux_lemma => kernel_rfl) (by as_aux_lemma => kernel_rfl) (by as_aux_lemma => kernel_rfl) (fun _ _ _ h => h) (Or.inl ⟨by kernel_rfl, ?_⟩) hS ?_
          · intro w hSw; (try dsimp only at hSw); go_simp
          (try simp only [Act.put, List.getElem_toArray, List.getElem_cons_zero, List.getElem_cons_succ, List.setIfInBounds_toArray, List.set_cons_zero, List.set_cons_succ])
          refine wpAnyH_take (i := 19) (v := (.agg #[.int .i64 ux, .int .i64 uy, .int .i64 uz])) rfl (by as_aux_lemma => kernel_rfl) (by as_aux_lemma => kernel_rfl) (by as_aux_lemma => kernel_rfl) (fun _ _ _ h => h) (Or.inl ⟨by kernel_rfl, ?_⟩) hS ?_
          · intro w hSw; (try dsimp only at hSw); have hl0 := cell_later hSw o_cv0; have hl1 := cell_later hSw o_cv1; have hl2 := cell_later hSw o_cv2; go_simp
          (try simp only [Act.put, List.getElem_toArray, List.getElem_cons_zero, List.getElem_cons_succ, List.setIfInBounds_toArray, List.set_cons_zero, List.set_cons_succ])
          refine wpAnyH_take (i := 20) (v := (.bool true)) rfl (by as_aux_lemma => kernel_rfl) (by as_aux_lemma => kernel_rfl) (by as_aux_lemma => kernel_rfl) (fun _ _ _ h => h) (Or.inl ⟨by kernel_rfl, ?_⟩) hS ?_
          · intro w hSw; (try dsimp only at hSw); go_simp
          (try simp only [Act.put, List.getElem_toArray, List.getElem_cons_zero, List.getElem_cons_succ, List.setIfInBounds_toArray, List.set_cons_zero, List.set_cons_succ])
          refine wpAnyH_take (i := 21) (v := (.bool true)) rfl (by as_aux_lemma => kernel_rfl) (by as_aux_lemma => kernel_rfl) (by as_aux_lemma => kernel_rfl) (fun _ _ _ h => h) (Or.inl ⟨by kernel_rfl, ?_⟩) hS ?_
          · intro w hSw; (try dsimp only at hSw); go_simp
          (try simp only [Act.put, List.getElem_toArray, List.getElem_cons_zero, List.getElem_cons_succ, List.setIfInBounds_toArray, List.set_cons_zero, List.set_cons_succ])
          refine wpAnyH_take (i := 22) (v := (.bool true)) rfl (by as_aux_lemma => kernel_rfl) (by as_aux_lemma => kernel_rfl) (by as_aux_lemma => kernel_rfl) (fun _ _ _ h => h) (Or.inl ⟨by kernel_rfl, ?_⟩) hS ?_
          · intro w hSw; (try dsimp only at hSw); go_simp
          (try simp only [Act.put, List.getElem_toArray, List.getElem_cons_zero, List.getElem_cons_succ, List.setIfInBounds_toArray, List.set_cons_zero, List.set_cons_succ])
          refine wpAnyH_take (i := 23) (v := (.bool true)) rfl (by as_aux_lemma => kernel_rfl) (by as_aux_lemma => kernel_rfl) (by as_aux_lemma => kernel_rfl) (fun _ _ _ h => h) (Or.inl ⟨by kernel_rfl, ?_⟩) hS ?_
          · intro w hSw; (try dsimp only at hSw); go_simp
          (try simp only [Act.put, List.getElem_toArray, List.getElem_cons_zero, List.getElem_cons_succ, List.setIfInBounds_toArray, List.set_cons_zero, List.set_cons_succ])
          refine wpAnyH_done (by kernel_rfl) ?_ _
          clear o_cC1
          clear o_cL2
          clear o_cu0
          clear o_cu1
          clear o_cu2
          clear o_cv0
          clear o_cv1
          clear o_cv2
          go_wp2
          go_ret
          exact ⟨rfl, hb⟩
        · have hks' : ¬ (s : Int) < (K0 : Int) := by omega
          have hm0 : (rowOf true (d : Int) (s : Int) 0 cs).length = 0 := by
            unfold rowOf rTo rFrom
            rw [if_pos rfl, List.length_take, List.length_drop, HK.out]
            omega
          generalize rowOf true (d : Int) (s : Int) 0 cs = row at *
          rw [hm0] at rA ⊢
          go_wp2_with fail
          have bp : ∀ o0, Below w11.heap.size w11 (w11.alloc o0) := fun o0 => (Below.refl _ _).alloc (Nat.le_refl _) o0
          have hbt : ∀ o0, Below w.heap.size w (w11.alloc o0) := fun o0 => hb.trans ((bp o0).mono hb.size)
          obtain ⟨w12, hw12⟩ : ∃ x, (w11.alloc (.cells #[.int .i64 0, .slice aC K0 kC] 34)) = x := ⟨_, rfl⟩
          have hc : Below ((w11.alloc (.cells #[.int .i64 0, .slice aC K0 kC] 34))).heap.size ((w11.alloc (.cells #[.int .i64 0, .slice aC K0 kC] 34))) w12 := hw12 ▸ Below.refl _ _
          have s12 : w11.heap.size + 1 ≤ w12.heap.size := by have := hc.size; simp at this; omega
          have bq : Below w11.heap.size w11 w12 := (bp _).trans (hc.mono (bp _).size)
          replace cL0 := cell_later bq cL0
          replace cL1 := cell_later bq cL1
          replace cL2 := cell_later bq cL2
          replace zL := Nat.lt_of_lt_of_le zL bq.size
          replace cN0 := cell_later bq cN0
          replace cN1 := cell_later bq cN1
          replace zN := Nat.lt_of_lt_of_le zN bq.size
          have cC0 : w12.cell? ⟨w11.heap.size, 0, none⟩ = some (.int .i64 0) := cell_later hc (by simp [go_sem])
          have cC1 : w12.cell? ⟨w11.heap.size, 1, none⟩ = some (.slice aC K0 kC) := cell_later hc (by simp [go_sem])
          have zC : w11.heap.size < w12.heap.size := by omega
          replace ry := ry.below bq
          replace rA := rA.below bq
          replace rC := rC.below bq
          replace hb := hb.trans (bq.mono hb.size)
          clear hc bq bp hbt
          rw [hw12]
          clear hw12
          have bd : Below w12.heap.size w12 w12.drew := (Below.refl _ _).drew
          refine wp_region_held_drew (S := fun w' => Below w12.heap.size w12 w') (by kernel_rfl) bd (fun hS => ?_)
          obtain ⟨D12, hD⟩ : ∃ D, w12.drew = D := ⟨_, rfl⟩
          rw [hD] at hS bd ⊢
          have hc := bd
          clear hD bd
          have s13 : w12.heap.size ≤ D12.heap.size := hc.size
          have bq := hc
          replace cL0 := cell_later bq cL0
          replace cL1 := cell_later bq cL1
          replace cL2 := cell_later bq cL2
          replace zL := Nat.lt_of_lt_of_le zL bq.size
          replace cN0 := cell_later bq cN0
          replace cN1 := cell_later bq cN1
          replace zN := Nat.lt_of_lt_of_le zN bq.size
          replace cC0 := cell_later bq cC0
          replace cC1 := cell_later bq cC1
          replace zC := Nat.lt_of_lt_of_le zC bq.size
          replace ry := ry.below bq
          replace rA := rA.below bq
          replace rC := rC.below bq
          replace hb := hb.trans (bq.mono hb.size)
          clear hc bq
          refine wpAnyH_take (i := 0) (v := (.slice aA 0 kA)) rfl (by as_aux_lemma => kernel_rfl) (by as_aux_lemma => kernel_rfl) (by as_aux_lemma => kernel_rfl) (fun _ _ _ h => h) (Or.inl ⟨by kernel_rfl, ?_⟩) hS ?_
          · intro w hSw; (try dsimp only at hSw); go_simp
          (try simp only [Act.put, List.getElem_toArray, List.getElem_cons_zero, List.getElem_cons_succ, List.setIfInBounds_toArray, List.set_cons_zero, List.set_cons_succ])
          refine wpAnyH_take (i := 1) (v := (.int .i64 0)) rfl (by as_aux_lemma => kernel_rfl) (by as_aux_lemma => kernel_rfl) (by as_aux_lemma => kernel_rfl) (fun _ _ _ h => h) (Or.inl ⟨by kernel_rfl, ?_⟩) hS ?_
          · intro w hSw; (try dsimp only at hSw); go_simp
          (try simp only [Act.put, List.getElem_toArray, List.getElem_cons_zero, List.getElem_cons_succ, List.setIfInBounds_toArray, List.set_cons_zero, List.set_cons_succ])
          refine wpAnyH_take (i := 2) (v := (.bool true)) rfl (by as_aux_lemma => kernel_rfl) (by as_aux_lemma => kernel_rfl) (by as_aux_lemma => kernel_rfl) (fun _ _ _ h => h) (Or.inl ⟨by kernel_rfl, ?_⟩) hS ?_
          · intro w hSw; (try dsimp only at hSw); go_simp
          (try simp only [Act.put, List.getElem_toArray, List.getElem_cons_zero, List.getElem_cons_succ, List.setIfInBounds_toArray, List.set_cons_zero, List.set_cons_succ])
          refine wpAnyH_take (i := 3) (v := (.bool true)) rfl (by as_aux_lemma => kernel_rfl) (by as_aux_lemma => kernel_rfl) (by as_aux_lemma => kernel_rfl) (fun _ _ _ h => h) (Or.inl ⟨by kernel_rfl, ?_⟩) hS ?_
          · intro w hSw; (try dsimp only at hSw); go_simp
          (try simp only [Act.put, List.getElem_toArray, List.getElem_cons_zero, List.getElem_cons_succ, List.setIfInBounds_toArray, List.set_cons_zero, List.set_cons_succ])
          refine wpAnyH_take (i := 4) (v := undef) rfl (by as_aux_lemma => kernel_rfl) (by as_aux_lemma => kernel_rfl) (by as_aux_lemma => kernel_rfl) (fun _ _ _ h => h) (Or.inr ⟨by kernel_rfl, rfl⟩) hS ?_
          (try simp only [Act.put, List.getElem_toArray, List.getElem_cons_zero, List.getElem_cons_succ, List.setIfInBounds_toArray, List.set_cons_zero, List.set_cons_succ])
          refine wpAnyH_take (i := 5) (v := undef) rfl (by as_aux_lemma => kernel_rfl) (by as_aux_lemma => kernel_rfl) (by as_aux_lemma => kernel_rfl) (fun _ _ _ h => h) (Or.inr ⟨by kernel_rfl, rfl⟩) hS ?_
          (try simp only [Act.put, List.getElem_toArray, List.getElem_cons_zero, List.getElem_cons_succ, List.setIfInBounds_toArray, List.set_cons_zero, List.set_cons_succ])
          refine wpAnyH_take (i := 6) (v := undef) rfl (by as_aux_lemma => kernel_rfl) (by as_aux_lemma => kernel_rfl) (by as_aux_lemma => kernel_rfl) (fun _ _ _ h => h) (Or.inr ⟨by kernel_rfl, rfl⟩) hS ?_
          (try simp only [Act.put, List.getElem_toArray, List.getElem_cons_zero, List.getElem_cons_succ, List.setIfInBounds_toArray, List.set_cons_zero, List.set_cons_succ])
          refine wpAnyH_take (i := 7) (v := undef) rfl (by as_aux_lemma => kernel_rfl) (by as_aux_lemma => kernel_rfl) (by as_aux_lemma => kernel_rfl) (fun _ _ _ h => h) (Or.inr ⟨by kernel_rfl, rfl⟩) hS ?_
          (try simp only [Act.put, List.getElem_toArray, List.getElem_cons_zero, List.getElem_cons_succ, List.setIfInBounds_toArray, List.set_cons_zero, List.set_cons_succ])
          refine wpAnyH_take (i := 8) (v := undef) rfl (by as_aux_lemma => kernel_rfl) (by as_aux_lemma => kernel_rfl) (by as_aux_lemma => kernel_rfl) (fun _ _ _ h => h) (Or.inr ⟨by kernel_rfl, rfl⟩) hS ?_
          (try simp only [Act.put, List.getElem_toArray, List.getElem_cons_zero, List.getElem_cons_succ, List.setIfInBounds_toArray, List.set_cons_zero, List.set_cons_succ])
          refine wpAnyH_take (i := 9) (v := undef) rfl (by as_aux_lemma => kernel_rfl) (by as_aux_lemma => kernel_rfl) (by as_aux_lemma => kernel_rfl) (fun _ _ _ h => h) (Or.inr ⟨by kernel_rfl, rfl⟩) hS ?_
          (try simp only [Act.put, List.getElem_toArray, List.getElem_cons_zero, List.getElem_cons_succ, List.setIfInBounds_toArray, List.set_cons_zero, List.set_cons_succ])
          refine wpAnyH_take (i := 10) (v := undef) rfl (by as_aux_lemma => kernel_rfl) (by as_aux_lemma => kernel_rfl) (by as_aux_lemma => kernel_rfl) (fun _ _ _ h => h) (Or.inr ⟨by kernel_rfl, rfl⟩) hS ?_
          (try simp only [Act.put, List.getElem_toArray, List.getElem_cons_zero, List.getElem_cons_succ, List.setIfInBounds_toArray, List.set_cons_zero, List.set_cons_succ])
          refine wpAnyH_take (i := 11) (v := undef) rfl (by as_aux_lemma => kernel_rfl) (by as_aux_lemma => kernel_rfl) (by as_aux_lemma => kernel_rfl) (fun _ _ _ h => h) (Or.inr ⟨by kernel_rfl, rfl⟩) hS ?_
          (try simp only [Act.put, List.getElem_toArray, List.getElem_cons_zero, List.getElem_cons_succ, List.setIfInBounds_toArray, List.set_cons_zero, List.set_cons_succ])
          refine wpAnyH_take (i := 12) (v := undef) rfl (by as_aux_lemma => kernel_rfl) (by as_aux_lemma => kernel_rfl) (by as_aux_lemma => kernel_rfl) (fun _ _ _ h => h) (Or.inr ⟨by kernel_rfl, rfl⟩) hS ?_
          (try simp only [Act.put, List.getElem_toArray, List.getElem_cons_zero, List.getElem_cons_succ, List.setIfInBounds_toArray, List.set_cons_zero, List.set_cons_succ])
          refine wpAnyH_take (i := 13) (v := undef) rfl (by as_aux_lemma => kernel_rfl) (by as_aux_lemma => kernel_rfl) (by as_aux_lemma => kernel_rfl) (fun _ _ _ h => h) (Or.inr ⟨by kernel_rfl, rfl⟩) hS ?_
          (try simp only [Act.put, List.getElem_toArray, List.getElem_cons_zero, List.getElem_cons_succ, List.setIfInBounds_toArray, List.set_cons_zero, List.set_cons_succ])
          refine wpAnyH_take (i := 14) (v := undef) rfl (by as_aux_lemma => kernel_rfl) (by as_aux_lemma => kernel_rfl) (by as_aux_lemma => kernel_rfl) (fun _ _ _ h => h) (Or.inr ⟨by kernel_rfl, rfl⟩) hS ?_
          (try simp only [Act.put, List.getElem_toArray, List.getElem_cons_zero, List.getElem_cons_succ, List.setIfInBounds_toArray, List.set_cons_zero, List.set_cons_succ])
          refine wpAnyH_take (i := 15) (v := undef) rfl (by as_aux_lemma => kernel_rfl) (by as_aux_lemma => kernel_rfl) (by as_aux_lemma => kernel_rfl) (fun _ _ _ h => h) (Or.inr ⟨by kernel_rfl, rfl⟩) hS ?_
          (try simp only [Act.put, List.getElem_toArray, List.getElem_cons_zero, List.getElem_cons_succ, List.setIfInBounds_toArray, List.set_cons_zero, List.set_cons_succ])
          refine wpAnyH_take (i := 16) (v := undef) rfl (by as_aux_lemma => kernel_rfl) (by as_aux_lemma => kernel_rfl) (by as_aux_lemma => kernel_rfl) (fun _ _ _ h => h) (Or.inr ⟨by kernel_rfl, rfl⟩) hS ?_
          (try simp only [Act.put, List.getElem_toArray, List.getElem_cons_zero, List.getElem_cons_succ, List.setIfInBounds_toArray, List.set_cons_zero, List.set_cons_succ])
          refine wpAnyH_take (i := 17) (v := undef) rfl (by as_aux_lemma => kernel_rfl) (by as_aux_lemma => kernel_rfl) (by as_aux_lemma => kernel_rfl) (fun _ _ _ h => h) (Or.inr ⟨by kernel_rfl, rfl⟩) hS ?_
          (try simp only [Act.put, List.getElem_toArray, List.getElem_cons_zero, List.getElem_cons_succ, List.setIfInBounds_toArray, List.set_cons_zero, List.set_cons_succ])
          refine wpAnyH_take (i := 18) (v := undef) rfl (by as_aux_lemma => kernel_rfl) (by as_aux_lemma => kernel_rfl) (by as_aux_lemma => kernel_rfl) (fun _ _ _ h => h) (Or.inr ⟨by kernel_rfl, rfl⟩) hS ?_
          (try simp only [Act.put, List.getElem_toArray, List.getElem_cons_zero, List.getElem_cons_succ, List.setIfInBounds_toArray, List.set_cons_zero, List.set_cons_succ])
          refine wpAnyH_take (i := 19) (v := undef) rfl (by as_aux_lemma => kernel_rfl) (by as_aux_lemma => kernel_rfl) (by as_aux_lemma => kernel_rfl) (fun _ _ _ h => h) (Or.inr ⟨by kernel_rfl, rfl⟩) hS ?_
          (try simp only [Act.put, List.getElem_toArray, List.getElem_cons_zero, List.getElem_cons_succ, List.setIfInBounds_toArray, List.set_cons_zero, List.set_cons_succ])
          refine wpAnyH_take (i := 20) (v := undef) rfl (by as_aux_lemma => kernel_rfl) (by as_aux_lemma => kernel_rfl) (by as_aux_lemma => kernel_rfl) (fun _ _ _ h => h) (Or.inr ⟨by kernel_rfl, rfl⟩) hS ?_
          (try simp only [Act.put, List.getElem_toArray, List.getElem_cons_zero, List.getElem_cons_succ, List.setIfInBounds_toArray, List.set_cons_zero, List.set_cons_succ])
          refine wpAnyH_take (i := 21) (v := undef) rfl (by as_aux_lemma => kernel_rfl) (by as_aux_lemma => kernel_rfl) (by as_aux_lemma => kernel_rfl) (fun _ _ _ h => h) (Or.inr ⟨by kernel_rfl, rfl⟩) hS ?_
          (try simp only [Act.put, List.getElem_toArray, List.getElem_cons_zero, List.getElem_cons_succ, List.setIfInBounds_toArray, List.set_cons_zero, List.set_cons_succ])
          refine wpAnyH_take (i := 22) (v := (.bool true)) rfl (by as_aux_lemma => kernel_rfl) (by as_aux_lemma => kernel_rfl) (by as_aux_lemma => kernel_rfl) (fun _ _ _ h => h) (Or.inl ⟨by kernel_rfl, ?_⟩) hS ?_
          · intro w hSw; (try dsimp only at hSw); go_simp
          (try simp only [Act.put, List.getElem_toArray, List.getElem_cons_zero, List.getElem_cons_succ, List.setIfInBounds_toArray, List.set_cons_zero, List.set_cons_succ])
          refine wpAnyH_take (i := 23) (v := (.bool true)) rfl (by as_aux_lemma => kernel_rfl) (by as_aux_lemma => kernel_rfl) (by as_aux_lemma => kernel_rfl) (fun _ _ _ h => h) (Or.inl ⟨by kernel_rfl, ?_⟩) hS ?_
          · intro w hSw; (try dsimp only at hSw); go_simp
          (try simp only [Act.put, List.getElem_toArray, List.getElem_cons_zero, List.getElem_cons_succ, List.setIfInBounds_toArray, List.set_cons_zero, List.set_cons_succ])
          refine wpAnyH_done (by kernel_rfl) ?_ _
          go_wp2
          go_ret
          exact ⟨rfl, hb⟩
      case false =>
        have hall : allR false W S cs NR = cs := by
          obtain ⟨d, rfl⟩ : ∃ d : Nat, W = (d : Int) := ⟨W.toNat, by omega⟩
          rw [HNR2.out]; exact all_nc2 (by omega)
        rw [hall, hKc] at rA ⊢
        have hN1' : (1 : Int) ≤ (NR : Int) := by omega
        go_wp2
        have bp : ∀ o0, Below w11.heap.size w11 (w11.alloc o0) := fun o0 => (Below.refl _ _).alloc (Nat.le_refl _) o0
        have hbt : ∀ o0, Below w.heap.size w (w11.alloc o0) := fun o0 => hb.trans ((bp o0).mono hb.size)
        obtain ⟨w12, hw12⟩ : ∃ x, (w11.alloc (.cells #[.int .i64 0, .slice aC K0 kC] 34)) = x := ⟨_, rfl⟩
        have hc : Below ((w11.alloc (.cells #[.int .i64 0, .slice aC K0 kC] 34))).heap.size ((w11.alloc (.cells #[.int .i64 0, .slice aC K0 kC] 34))) w12 := hw12 ▸ Below.refl _ _
        have s12 : w11.heap.size + 1 ≤ w12.heap.size := by have := hc.size; simp at this; omega
        have bq : Below w11.heap.size w11 w12 := (bp _).trans (hc.mono (bp _).size)
        replace cL0 := cell_later bq cL0
        replace cL1 := cell_later bq cL1
        replace cL2 := cell_later bq cL2
        replace zL := Nat.lt_of_lt_of_le zL bq.size
        replace cN0 := cell_later bq cN0
        replace cN1 := cell_later bq cN1
        replace zN := Nat.lt_of_lt_of_le zN bq.size
        have cC0 : w12.cell? ⟨w11.heap.size, 0, none⟩ = some (.int .i64 0) := cell_later hc (by simp [go_sem])
        have cC1 : w12.cell? ⟨w11.heap.size, 1, none⟩ = some (.slice aC K0 kC) := cell_later hc (by simp [go_sem])
        have zC : w11.heap.size < w12.heap.size := by omega
        replace ry := ry.below bq
        replace rA := rA.below bq
        replace rC := rC.below bq
        replace hb := hb.trans (bq.mono hb.size)
        clear hc bq bp hbt
        rw [hw12]
        clear hw12
        have HV := hid (And.intro cL0 (And.intro cL1 (And.intro cL2 (And.intro cN0 (And.intro cN1 (And.intro cC0 (And.intro cC1 (And.intro ry (And.intro (rA.read cellE_len) (rC.read cellE_len))))))))))
        clear cL0 cL1 cL2 cN0 cN1 cC0 cC1 ry rA rC
        go_loopw [10] (fun i wq => ∃ k : Nat, k ≤ K0 ∧ i = .int .i64 k ∧ Below w12.heap.size w12 wq) (fun i _ => K0 - (intOf i).toNat)
        case atStart => exact ⟨0, Nat.zero_le _, rfl, Below.refl _ _⟩
        case round =>
          obtain ⟨j, hj, rfl, hbq⟩ := hrel
          by_cases hjk : j < K0
          · have hjk' : (j : Int) < (K0 : Int) := by omega
            have cC1 := cell_later hbq HV.out.2.2.2.2.2.2.1
            obtain ⟨gA, oA, u, haA, hu, hcA⟩ := (HV.out.2.2.2.2.2.2.2.2.1.below hbq).at hjk
            obtain ⟨gC, oC, u2, haC, hu2, hcC⟩ := (HV.out.2.2.2.2.2.2.2.2.2.below hbq).at hjk
            rw [hu] at hu2
            obtain rfl := Option.some.inj hu2
            subst haA haC
            obtain ⟨ux, uy, uz⟩ := u
            have cu0 := hcA 0 _ rfl
            have cu1 := hcA 1 _ rfl
            have cu2 := hcA 2 _ rfl
            have cv0 := hcC 0 _ rfl
            have cv1 := hcC 1 _ rfl
            have cv2 := hcC 2 _ rfl
            simp only [Nat.add_zero] at cu0 cv0
            have hg := guardCell
            have q1 := neqCell ux uy uz
            clear hcA hcC hu
            go_wp2_with fail
            have hb0 := hb
            clear hb
            have hb : Below wr.heap.size wr wr := Below.refl _ _
            have bd : Below wr.heap.size wr wr.drew := (Below.refl _ _).drew
            refine wp_region_held_drew (S := fun w' => Below wr.heap.size wr w') (by kernel_rfl) bd (fun hS => ?_)
            obtain ⟨D30, hD⟩ : ∃ D, wr.drew = D := ⟨_, rfl⟩
            rw [hD] at hS bd ⊢
            have hc := bd
            clear hD bd
            have o_cC1 := cC1
            have o_cu0 := cu0
            have o_cu1 := cu1
            have o_cu2 := cu2
            have o_cv0 := cv0
            have o_cv1 := cv1
            have o_cv2 := cv2
            have s31 : wr.heap.size ≤ D30.heap.size := hc.size
            have bq := hc
            replace hb := hb.trans (bq.mono hb.size)
            clear hc bq
            refine wpAnyH_take (i := 0) (v := (.slice (some ⟨gA, oA, none⟩) K0 kA)) rfl (by as_aux_lemma => kernel_rfl) (by as_aux_lemma => kernel_rfl) (by as_aux_lemma => kernel_rfl) (fun _ _ _ h => h) (Or.inl ⟨by kernel_rfl, ?_⟩) hS ?_
            · intro w hSw; (try dsimp only at hSw); go_simp
            (try simp only [Act.put, List.getElem_toArray, List.getElem_cons_zero, List.getElem_cons_succ, List.setIfInBounds_toArray, List.set_cons_zero, List.set_cons_succ])
            refine wpAnyH_take (i := 1) (v := (.int .i64 (j : Int))) rfl (by as_aux_lemma => kernel_rfl) (by as_aux_lemma => kernel_rfl) (by as_aux_lemma => kernel_rfl) (fun _ _ _ h => h) (Or.inl ⟨by kernel_rfl, ?_⟩) hS ?_
            · intro w hSw; (try dsimp only at hSw); go_simp
            (try simp only [Act.put, List.getElem_toArray, List.getElem_cons_zero, List.getElem_cons_succ, List.setIfInBounds_toArray, List.set_cons_zero, List.set_cons_succ])
            refine wpAnyH_take (i := 2) (v := (.pointer (some ⟨gA, oA + j * 3, none⟩))) rfl (by as_aux_lemma => kernel_rfl) (by as_aux_lemma => kernel_rfl) (by as_aux_lemma => kernel_rfl) (fun _ _ _ h => h) (Or.inl ⟨by kernel_rfl, ?_⟩) hS ?_
            · intro w hSw; (try dsimp only at hSw); go_simp
            (try simp only [Act.put, List.getElem_toArray, List.getElem_cons_zero, List.getElem_cons_succ, List.setIfInBounds_toArray, List.set_cons_zero, List.set_cons_succ])
            refine wpAnyH_take (i := 3) (v := (.agg #[.int .i64 ux, .int .i64 uy, .int .i64 uz])) rfl (by as_aux_lemma => kernel_rfl) (by as_aux_lemma => kernel_rfl) (by as_aux_lemma => kernel_rfl) (fun _ _ _ h => h) (Or.inl ⟨by kernel_rfl, ?_⟩) hS ?_
            · intro w hSw; (try dsimp only at hSw); have hl0 := cell_later hSw o_cu0; have hl1 := cell_later hSw o_cu1; have hl2 := cell_later hSw o_cu2; go_simp
            (try simp only [Act.put, List.getElem_toArray, List.getElem_cons_zero, List.getElem_cons_succ, List.setIfInBounds_toArray, List.set_cons_zero, List.set_cons_succ])
            refine wpAnyH_take (i := 4) (v := (.pointer (some ⟨w11.heap.size, 1, none⟩))) rfl (by as_aux_lemma => kernel_rfl) (by as_aux_lemma => kernel_rfl) (by as_aux_lemma => kernel_rfl) (fun _ _ _ h => h) (Or.inl ⟨by kernel_rfl, ?_⟩) hS ?_
            · intro w hSw; (try dsimp only at hSw); go_simp
            (try simp only [Act.put, List.getElem_toArray, List.getElem_cons_zero, List.getElem_cons_succ, List.setIfInBounds_toArray, List.set_cons_zero, List.set_cons_succ])
            refine wpAnyH_take (i := 5) (v := (.slice (some ⟨gC, oC, none⟩) K0 kC)) rfl (by as_aux_lemma => kernel_rfl) (by as_aux_lemma => kernel_rfl) (by as_aux_lemma => kernel_rfl) (fun _ _ _ h => h) (Or.inl ⟨by kernel_rfl, ?_⟩) hS ?_
            · intro w hSw; (try dsimp only at hSw); have hl0 := cell_later hSw o_cC1; go_simp
            (try simp only [Act.put, List.getElem_toArray, List.getElem_cons_zero, List.getElem_cons_succ, List.setIfInBounds_toArray, List.set_cons_zero, List.set_cons_succ])
            refine wpAnyH_take (i := 6) (v := (.int .i64 (j : Int))) rfl (by as_aux_lemma => kernel_rfl) (by as_aux_lemma => kernel_rfl) (by as_aux_lemma => kernel_rfl) (fun _ _ _ h => h) (Or.inl ⟨by kernel_rfl, ?_⟩) hS ?_
            · intro w hSw; (try dsimp only at hSw); go_simp
            (try simp only [Act.put, List.getElem_toArray, List.getElem_cons_zero, List.getElem_cons_succ, List.setIfInBounds_toArray, List.set_cons_zero, List.set_cons_succ])
            refine wpAnyH_take (i := 7) (v := (.pointer (some ⟨gC, oC + j * 3, none⟩))) rfl (by as_aux_lemma => kernel_rfl) (by as_aux_lemma => kernel_rfl) (by as_aux_lemma => kernel_rfl) (fun _ _ _ h => h) (Or.inl ⟨by kernel_rfl, ?_⟩) hS ?_
            · intro w hSw; (try dsimp only at hSw); go_simp
            (try simp only [Act.put, List.getElem_toArray, List.getElem_cons_zero, List.getElem_cons_succ, List.setIfInBounds_toArray, List.set_cons_zero, List.set_cons_succ])
            refine wpAnyH_take (i := 8) (v := (.agg #[.int .i64 ux, .int .i64 uy, .int .i64 uz])) rfl (by as_aux_lemma => kernel_rfl) (by as_aux_lemma => kernel_rfl) (by as_aux_lemma => kernel_rfl) (fun _ _ _ h => h) (Or.inl ⟨by kernel_rfl, ?_⟩) hS ?_
            · intro w hSw; (try dsimp only at hSw); have hl0 := cell_later hSw o_cv0; have hl1 := cell_later hSw o_cv1; have hl2 := cell_later hSw o_cv2; go_simp
            (try simp only [Act.put, List.getElem_toArray, List.getElem_cons_zero, List.getElem_cons_succ, List.setIfInBounds_toArray, List.set_cons_zero, List.set_cons_succ])
            refine wpAnyH_take (i := 9) (v := (.bool false)) rfl (by as_aux_lemma => kernel_rfl) (by as_aux_lemma => kernel_rfl) (by as_aux_lemma => kernel_rfl) (fun _ _ _ h => h) (Or.inl ⟨by kernel_rfl, ?_⟩) hS ?_
            · intro w hSw; (try dsimp only at hSw); go_simp
            (try simp only [Act.put, List.getElem_toArray, List.getElem_cons_zero, List.getElem_cons_succ, List.setIfInBounds_toArray, List.set_cons_zero, List.set_cons_succ])
            refine wpAnyH_done (by kernel_rfl) ?_ _
            clear o_cC1
            clear o_cu0
            clear o_cu1
            clear o_cu2
            clear o_cv0
            clear o_cv1
            clear o_cv2
            have hbD := hbq.trans (hb.mono hbq.size)
            go_wp2
            go_roundw
            case rel => exact ⟨j + 1, by omega, by go_num, hbD⟩
            case measure => simp [intOf]; omega
          · have e2 : K0 = j := by omega
            subst e2
            have hjk' : ¬ (K0 : Int) < (K0 : Int) := by omega
            replace hb := hb.trans (hbq.mono hb.size)
            have cL0 := cell_later hbq HV.out.1
            have cL1 := cell_later hbq HV.out.2.1
            have cL2 := cell_later hbq HV.out.2.2.1
            have cN1 := cell_later hbq HV.out.2.2.2.2.1
            have ry := HV.out.2.2.2.2.2.2.2.1.below hbq
            go_wp2_with fail
            refine Calls.mono (HRE.out _ ry.read) ?_
            rintro e w41 ⟨ve, rfl, rE, hc⟩
            clear rE
            have s41 : wr.heap.size ≤ w41.heap.size := hc.size
            have bq := hc
            replace hb := hb.trans (bq.mono hb.size)
            clear hc bq
            go_wp2
            go_ret
            exact ⟨rfl, hb⟩
end Go.Proofs.Ythkgplpdoaebiaa
namespace Go.Proofs.Ythkgplpdoaebiaa.fnRows
open Go.ChangeShapes Go.WideShapes Go.ChangeAt Go.RowKit
set_option linter.unusedVariables false

theorem own : ownKnob Try.prog.godebug = none := by kernel_rfl
theorem laidOut : laidOutB Try.prog = true := by kernel_rfl

set_option maxRecDepth 100000 in
theorem lifted (os : Os) (started : os.Started) (H : Type) (enc : TypeId × Value → H) :
    ReturnsInHanded {} Try.checked os 3 .any (Rows.fnRowsSpec.pre6 enc Try.prog Try.f3 Rows.fnRowsRow.domain false) (Rows.fnRowsSpec.post enc Try.prog Try.f3 false true false false) := by
  refine returnsInHanded_of_change (C := Try.checked) own started (by kernel_rfl) Try.func3
    (ChangeSpec.witness6 (enc := enc) (C := Try.checked) false ⟨#[], #[.slice none 0 0], []⟩ 8 (by kernel_rfl) (by kernel_rfl) (by kernel_rfl) (by kernel_rfl)) ?_
  intro W base args ds gs before hval0 hW hcnd _
  have hval : ∀ (j : Nat) t v, Try.f3.params[j]? = some t → args[j]? = some v → Value.okWide Try.prog W .any base t v := hval0
  have hW' := hW
  obtain ⟨p, q, hA0, hV, rfl, hfz, hnd⟩ := hW
  have hA : DataW.TrodAll enc Try.prog W 0 (fun _ => true) true Try.f3.params.toList args.toList ds p := hA0
  rw [Try.params3] at hA hval
  obtain ⟨v0, d0, rfl, rfl, h0⟩ := trodAll_one hA
  obtain ⟨rfl, rfl⟩ := trodVars_none hV
  obtain ⟨a0, len0, cap0, rfl⟩ := okWide_slice Try.underlying22 (hval 0 22 v0 rfl rfl)
  have k0 := h0
  have lt0 : ∀ x ∈ p, x.block < W.heap.size := by obtain ⟨m, hm⟩ := k0; exact DataW.trod_lt m _ _ _ hm
  obtain ⟨x0, hr0, hB0, hm0⟩ := open_bytes Try.underlying22 Try.underlying5 (by kernel_rfl) h0
  clear hA0 hval0
  refine (rowsWalk a0 len0 cap0 x0 W hr0 hB0 hm0).mono fun e W' ⟨he, bel⟩ => ?_
  subst he
  exact ⟨_, rfl, _, _, _, [], _, [], hW', trodAll_mk1 (shut_bool Try.underlying4 _), trodAll_mk1 (Below.trod laidOut (by kernel_rfl) (of_decide_eq_true (by kernel_rfl)) k0 bel lt0), rfl, bel.frame _, fun h => by cases h⟩

theorem proved : Rows.FnRowsSaid :=
  OpenClaim.holds_of_wide 3 Try.f3 rfl rfl rfl rfl rfl rfl rfl ⟨rfl, rfl, rfl, rfl, rfl⟩ rfl rfl rfl rfl rfl (by kernel_rfl) Try.func3 (by kernel_rfl)
    (of_decide_eq_true (by kernel_rfl)) (by unfold Func.isWrapper; first | (rw [if_pos (by decide +kernel)]; kernel_rfl) | (rw [if_neg (by decide +kernel)]; exact ⟨rfl, rfl⟩))
    (fun os started H enc _ => lifted os started H enc)
end Go.Proofs.Ythkgplpdoaebiaa.fnRows
namespace Go.Proofs.Ythkgplpdoaebiaa
theorem fnRows_proved : Rows.FnRowsSaid := fnRows.proved
end Go.Proofs.Ythkgplpdoaebiaa
