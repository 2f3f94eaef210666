/-
  For every code, FnMoves returns true: what the program's MoveSpot answers there and back is as the document has it; no condition but the card's own ties.
  (Args, WMoves, LMoves0 in one text.)
-/
import Derived.ProofKit
import Derived.OpenShut
import Derived.ChangeOld
import Derived.Below
import Derived.Carry
import Derived.LaidMore
import Derived.Lib.LaidTab
import Derived.Stop.Joined
import Derived.SevenTiedAt
import Derived.Test.YtjgmkcmlkffjlaaDoorBase
import Derived.Test.YtjgmkcmlkffjlaaDoorMath2
import Derived.Test.YtjgmkcmlkffjlaaDoorMvA
import Derived.Test.YtjgmkcmlkffjlaaDoorJoin
import Derived.Test.YtjgmkcmlkffjlaaDoorTie
import Derived.Test.YtjgmkcmlkffjlaaDoorCards
namespace Go.Proofs.YtjgmkcmlkffjlaaDoor
open Go.ChangeShapes Go.WideShapes Go.ChangeAt Go.RowKit
set_option linter.unusedVariables false

theorem bytes_of_wf {zs : List Int} (h : ∀ n ∈ zs, (Lit.int .u8 n).wf = true) : Bytes zs := by
  intro x hx
  have := h x hx
  simpa [Lit.wf, IntKind.min, IntKind.max, IntKind.signed, IntKind.bits] using this

theorem open_bytes {P : Program} {H : Type} {enc : TypeId × Value → H} {W : World} {T E : TypeId} {a : Option Addr} {len cap : Nat} {d : DataW H} {p : List MemPlace} {sp : Nat → Bool} {hd : Bool}
    (hT : P.underlying T = some (.slice E)) (hE : P.underlying E = some (.int .u8)) (hc : P.cellsOf E = 1) (h : DataW.Trod enc P W 0 sp hd T (.slice a len cap) d p) :
    ∃ xs, Rd .u8 W a len xs ∧ Bytes xs ∧ len ≤ maxLen := by
  obtain ⟨fuel, hf⟩ := h
  rcases open_ints hT hE hc hf with ⟨hcs, _⟩ | ⟨x, l, c, zs, hcs, _, hl, hm, hz, _, hcell, hwz⟩
  · simp [Value.cells] at hcs
    obtain ⟨rfl, rfl, rfl⟩ := hcs
    exact ⟨[], ⟨rfl, .inl rfl⟩, fun x hx => by simp at hx, by simp [maxLen]⟩
  · simp [Value.cells] at hcs
    obtain ⟨rfl, rfl, rfl⟩ := hcs
    have hzl : len ≤ zs.length := by rw [hz]; split <;> omega
    refine ⟨zs.take len, ⟨by simp; omega, ?_⟩, fun y hy => bytes_of_wf hwz y (List.mem_of_mem_take hy), by omega⟩
    by_cases h0 : len = 0
    · exact .inl h0
    · obtain ⟨b, off, spot⟩ := x
      have hc0 := hcell 0 (by omega)
      have hspot : spot = none := by simpa [Addr.add] using World.cell?_spot hc0
      subst hspot
      refine .inr ⟨b, off, rfl, fun j hj => ?_⟩
      have := hcell j (by omega)
      rw [Addr.add_lit] at this
      rw [this]
      simp [List.getD_eq_getElem?_getD, hj]
end Go.Proofs.YtjgmkcmlkffjlaaDoor

namespace Go.Proofs.YtjgmkcmlkffjlaaDoor
open Go.RowKit
set_option linter.unusedVariables false
set_option linter.unusedSimpArgs false

theorem fldS0 (x y z : Value) (w : World) : (Instr.field 33 (.agg #[x, y, z]) 0).run Tryd.prog w = .ok x w := by kernel_rfl
theorem fldS1 (x y z : Value) (w : World) : (Instr.field 33 (.agg #[x, y, z]) 1).run Tryd.prog w = .ok (.agg #[y, z]) w := by kernel_rfl
theorem i64_of {C : Bool} {W : Int} {xs : List Int} (hB : Bytes xs) (hn : xs.length ≤ 400) (hW : 1 ≤ W) {s : Int × Int} (h : s ∈ spAll (cnt C W xs)) : i64Sp (s.1, s.2) := by
  obtain ⟨⟨h3, h4⟩, h5, h6⟩ := spAll_small hB hn hW s h
  exact ⟨⟨by omega, by omega⟩, by omega, by omega⟩
theorem spotF_of {ys : List Int} {W S : Int} {C : Bool} (hb : spBase ys.length W C S = 0) {s : Int × Int} (h : s ∈ spAll (cnt C W ys)) : spotF ys W C S s.1 s.2 = 0 := by
  unfold spotF; rw [if_neg (by omega)]; exact spIn_mem.2 h
theorem mv_of {ys : List Int} {W S : Int} {C : Bool} (hb : spBase ys.length W C S = 0) {s : Int × Int} (h : s ∈ spAll (cnt C W ys)) {M : Int} (h1 : -9999 ≤ M) (h2 : M ≤ 9999) : mvC ys W C S s.1 s.2 M = 0 ∧ mvS ys W C S s.1 s.2 M = spMove (cnt C W ys) s M := by
  have e1 : mvC ys W C S s.1 s.2 M = 0 := by unfold mvC; rw [spotF_of hb h]; rw [if_neg (by omega), if_neg (by omega)]
  exact ⟨e1, by unfold mvS; rw [if_pos e1]⟩
theorem fldT0 (x y : Value) (w : World) : (Instr.field 36 (.agg #[x, y]) 0).run Tryd.prog w = .ok x w := by kernel_rfl
theorem fldT1 (x y : Value) (w : World) : (Instr.field 36 (.agg #[x, y]) 1).run Tryd.prog w = .ok y w := by kernel_rfl
theorem spt_told (L R : Int) : sptC L R ≠ 0 ∨ (sptT L R).toList.isEmpty = false := by
  unfold sptC sptT
  by_cases h : sptOk L R
  · rw [if_pos h, if_pos h]
    refine .inr ?_
    rw [ByteArray.toList_eq]
    have hz : 0 < (digB L.toNat ++ ⟨#[46]⟩ ++ digB R.toNat).data.toList.length := by
      rw [Array.length_toList]
      show 0 < (digB L.toNat ++ ⟨#[46]⟩ ++ digB R.toNat).size
      rw [ByteArray.size_append, ByteArray.size_append]
      show 0 < (digB L.toNat).size + 1 + (digB R.toNat).size
      omega
    cases hq : (digB L.toNat ++ ⟨#[46]⟩ ++ digB R.toNat).data.toList with
    | nil => rw [hq] at hz; simp at hz
    | cons a b => rfl
  · rw [if_neg h]; exact .inl (by decide)

set_option maxRecDepth 20000 in
set_option maxHeartbeats 12000000 in
theorem movesWalk (a : Option Addr) (n ca : Nat) (xs : List Int) (w : World) (ha : Rd .u8 w a n xs) (hB : Bytes xs) (hm : n ≤ maxLen) (htab : TabOk w) :
    Calls Tryd.prog 3 #[.slice a n ca] w fun e w' => e = .returned (.bool true) ∧ Below w.heap.size w w' := by
  unfold maxLen at hm
  by_cases hn : n ≤ 1048576
  case neg =>
    go_enter Tryd.func3, Tryd.ntmps3
    go_wp2_with (go_at_call 5; go_in)
    go_ret
    exact ⟨rfl, Below.refl _ _⟩
  go_enter Tryd.func3, Tryd.ntmps3
  have hb : Below w.heap.size w w := Below.refl _ _
  go_wp2_with (go_at_call 5; go_in)
  refine Calls.mono (DrawMoveSpot_any a n ca xs _ (ha.below hb) hB hn) ?_
  rintro e w1 ⟨v, ys, W, Q, S, L, R, M, rfl, ry, hyl, hyb, hsp, hM, hc⟩
  obtain ⟨ay, ky, rfl, hk1, hk2⟩ := ry.shape
  have s1 : w.heap.size ≤ w1.heap.size := hc.size
  have bq := hc
  replace hb := hb.trans (bq.mono hb.size)
  clear hc bq
  obtain ⟨hMa, hMb⟩ := hM
  have IM := fun w' h => implMoveSpot_any ay ys.length ky ys W S L R M Q hsp w' h hyb (by omega) hk1 hk2
  have SM := fun w' h => specMoveSpot_any ay ys.length ky ys W S L R M Q w' h hyb (by omega) hk1 hk2
  have HIT : Hid _ := fun w' (hbb : Below w.heap.size w w') => implSpotText_any L R w' (htab.below hbb)
  have HSS : Hid _ := fun w' => specSpotText_any L R w'
  have f0 := fldS0
  have f1 := fldS1
  have f2 := fldT0
  have f3 := fldT1
  clear ha hB hn hm htab
  by_cases hC : mvC ys W Q S L R M = 0
  · have hC2 := hC
    unfold mvC at hC2
    have hsf : spotF ys W Q S L R = 0 := by
      apply Classical.byContradiction; intro h; rw [if_pos h] at hC2; exact h hC2
    rw [if_neg (by omega)] at hC2
    have hMr : -9999 ≤ M ∧ M ≤ 9999 := by split at hC2 <;> omega
    clear hMa hMb
    obtain ⟨hMa, hMb⟩ := hMr
    have hb0 : spBase ys.length W Q S = 0 := by
      unfold spotF at hsf
      apply Classical.byContradiction; intro h; rw [if_pos h] at hsf; exact h hsf
    have hin : spIn (cnt Q W ys) L R = 0 := by unfold spotF at hsf; rw [if_neg (by omega)] at hsf; exact hsf
    have hmem := spIn_mem.1 hin
    obtain ⟨hn4, hLy⟩ := spBase_ok hb0
    obtain ⟨hW, hW2, -, -, -⟩ := lyF_ok hLy
    have hS : mvS ys W Q S L R M = spMove (cnt Q W ys) (L, R) M := by unfold mvS; rw [if_pos hC]
    rw [hC, hS] at IM SM
    obtain ⟨m1, m2, m3, m4, m5, m6⟩ := moves (cnt_pos (C := Q) (xs := ys) hW) (cnt_tot hyb hn4 hW) hmem hMa hMb
    obtain ⟨e1, e2⟩ := mv_of hb0 hmem (M := 9999) (by omega) (by omega)
    obtain ⟨g1, g2⟩ := mv_of hb0 hmem (M := -9999) (by omega) (by omega)
    obtain ⟨o1, o2⟩ := mv_of hb0 hmem (M := 1) (by omega) (by omega)
    obtain ⟨r1, r2⟩ := mv_of hb0 m1 (M := -M) (by omega) (by omega)
    obtain ⟨b1, b2⟩ := mv_of hb0 m5 (M := -1) (by omega) (by omega)
    have ME := fun w' h => implMoveSpot_any ay ys.length ky ys W S L R 9999 Q hsp w' h hyb (by omega) hk1 hk2
    have MF := fun w' h => implMoveSpot_any ay ys.length ky ys W S L R (-9999) Q hsp w' h hyb (by omega) hk1 hk2
    have MO := fun w' h => implMoveSpot_any ay ys.length ky ys W S L R 1 Q hsp w' h hyb (by omega) hk1 hk2
    have MG := fun w' h => implMoveSpot_any ay ys.length ky ys W S (spMove (cnt Q W ys) (L, R) M).1 (spMove (cnt Q W ys) (L, R) M).2 (-M) Q (i64_of hyb hn4 hW m1) w' h hyb (by omega) hk1 hk2
    have MB := fun w' h => implMoveSpot_any ay ys.length ky ys W S (spMove (cnt Q W ys) (L, R) 1).1 (spMove (cnt Q W ys) (L, R) 1).2 (-1) Q (i64_of hyb hn4 hW m5) w' h hyb (by omega) hk1 hk2
    have FA := fun w' h => implSpotFault_any ay ys.length ky ys W S (spMove (cnt Q W ys) (L, R) M).1 (spMove (cnt Q W ys) (L, R) M).2 Q (i64_of hyb hn4 hW m1) w' h hyb (by omega) hk1 hk2
    have FE := fun w' h => implSpotFault_any ay ys.length ky ys W S (spMove (cnt Q W ys) (L, R) 9999).1 (spMove (cnt Q W ys) (L, R) 9999).2 Q (i64_of hyb hn4 hW m2) w' h hyb (by omega) hk1 hk2
    rw [spotF_of hb0 m1] at FA
    rw [spotF_of hb0 m2] at FE
    simp only at e1 e2 g1 g2 o1 o2
    rw [e1, e2] at ME
    rw [g1, g2, m3] at MF
    rw [o1, o2] at MO
    rw [r1, r2] at MG
    rw [b1, b2] at MB
    generalize spMove (cnt Q W ys) (L, R) M = A at *
    generalize spMove (cnt Q W ys) (L, R) 9999 = EE at *
    generalize spMove (cnt Q W ys) (L, R) 1 = OO at *
    generalize spMove (cnt Q W ys) A (-M) = G at *
    generalize spMove (cnt Q W ys) OO (-1) = BB at *
    obtain ⟨A1, A2⟩ := A
    obtain ⟨E1, E2⟩ := EE
    obtain ⟨O1, O2⟩ := OO
    obtain ⟨G1, G2⟩ := G
    obtain ⟨B1, B2⟩ := BB
    simp only at IM SM ME MF MO MG MB FA FE
    have HTT := hid (spt_told L R)
    generalize sptC L R = c at *
    generalize sptT L R = T at *
    have HIM : Hid _ := IM
    have HSM : Hid _ := SM
    have HME : Hid _ := ME
    have HMF : Hid _ := MF
    have HMO : Hid _ := MO
    have HMG : Hid _ := MG
    have HFA : Hid _ := FA
    have HFE : Hid _ := FE
    have hg := guardSpot
    have qAA : ∀ w, (binOp .eql 29 (.agg #[.int .i64 A1, .int .i64 A2]) (.agg #[.int .i64 A1, .int .i64 A2])).run Tryd.prog w = .ok (.bool true) w := fun w => by rw [eqlSpot, decide_eq_true ⟨rfl, rfl⟩]
    have qSS : ∀ w, (binOp .eql 29 (.agg #[.int .i64 L, .int .i64 R]) (.agg #[.int .i64 L, .int .i64 R])).run Tryd.prog w = .ok (.bool true) w := fun w => by rw [eqlSpot, decide_eq_true ⟨rfl, rfl⟩]
    have qZZ : ∀ w, (binOp .eql 29 (.agg #[.int .i64 0, .int .i64 0]) (.agg #[.int .i64 0, .int .i64 0])).run Tryd.prog w = .ok (.bool true) w := fun w => by rw [eqlSpot, decide_eq_true ⟨rfl, rfl⟩]
    have qNS : ∀ w, (binOp .neq 29 (.agg #[.int .i64 L, .int .i64 R]) (.agg #[.int .i64 L, .int .i64 R])).run Tryd.prog w = .ok (.bool false) w := fun w => by rw [neqSpot, decide_eq_false (fun h => h ⟨rfl, rfl⟩)]
    have hwM : IntKind.i64.wrap (-M) = -M := by rw [IntKind.wrap_i64]; omega
    clear IM SM ME MF MO MG FA FE m1 m2 m3 m5 e1 e2 g1 g2 o1 o2 r1 r2 b1 b2 hS hC hC2 hb0 hin hmem hLy hW hW2 hk1 hk2 hyb hsf hsp
    by_cases hAE : A1 = E1 ∧ A2 = E2
    · have qAE : ∀ w, (binOp .neq 29 (.agg #[.int .i64 A1, .int .i64 A2]) (.agg #[.int .i64 E1, .int .i64 E2])).run Tryd.prog w = .ok (.bool false) w := fun w => by rw [neqSpot, decide_eq_false (fun h => h hAE)]
      clear hAE
      clear m4
      go_wp2_with fail
      have bp : ∀ o0 o1 o2, Below w1.heap.size w1 (((w1.alloc o0).alloc o1).alloc o2) := fun o0 o1 o2 => (((Below.refl _ _).alloc (Nat.le_refl _) o0).alloc (by simp) o1).alloc (by simp; omega) o2
      have hbt : ∀ o0 o1 o2, Below w.heap.size w (((w1.alloc o0).alloc o1).alloc o2) := fun o0 o1 o2 => hb.trans ((bp o0 o1 o2).mono hb.size)
      refine Calls.mono (HIM.out _ (ry.below (bp _ _ _)).read) ?_
      rintro e w2 ⟨rfl, hc⟩
      have s2 : w1.heap.size + 3 ≤ w2.heap.size := by have := hc.size; simp at this; omega
      have bq : Below w1.heap.size w1 w2 := (bp _ _ _).trans (hc.mono (bp _ _ _).size)
      have cF0 : w2.cell? ⟨w1.heap.size, 0, none⟩ = some (.slice ay ys.length ky) := cell_later hc (by simp [go_sem])
      have zF : w1.heap.size < w2.heap.size := by omega
      have cL0 : w2.cell? ⟨w1.heap.size + 1, 0, none⟩ = some (.int .i64 W) := cell_later hc (by simp [go_sem])
      have cL1 : w2.cell? ⟨w1.heap.size + 1, 1, none⟩ = some (.bool Q) := cell_later hc (by simp [go_sem])
      have cL2 : w2.cell? ⟨w1.heap.size + 1, 2, none⟩ = some (.int .i64 S) := cell_later hc (by simp [go_sem])
      have zL : w1.heap.size + 1 < w2.heap.size := by omega
      have cP0 : w2.cell? ⟨w1.heap.size + 1 + 1, 0, none⟩ = some (.int .i64 L) := cell_later hc (by simp [go_sem])
      have cP1 : w2.cell? ⟨w1.heap.size + 1 + 1, 1, none⟩ = some (.int .i64 R) := cell_later hc (by simp [go_sem])
      have zP : w1.heap.size + 1 + 1 < w2.heap.size := by omega
      replace ry := ry.below bq
      replace hb := hb.trans (bq.mono hb.size)
      clear hc bq bp hbt
      go_wp2_with fail
      have bp : ∀ o0, Below w2.heap.size w2 (w2.alloc o0) := fun o0 => (Below.refl _ _).alloc (Nat.le_refl _) o0
      have hbt : ∀ o0, Below w.heap.size w (w2.alloc o0) := fun o0 => hb.trans ((bp o0).mono hb.size)
      refine Calls.mono (HME.out _ (ry.below (bp _)).read) ?_
      rintro e w3 ⟨rfl, hc⟩
      have s3 : w2.heap.size + 1 ≤ w3.heap.size := by have := hc.size; simp at this; omega
      have bq : Below w2.heap.size w2 w3 := (bp _).trans (hc.mono (bp _).size)
      replace cF0 := cell_later bq cF0
      replace zF := Nat.lt_of_lt_of_le zF bq.size
      replace cL0 := cell_later bq cL0
      replace cL1 := cell_later bq cL1
      replace cL2 := cell_later bq cL2
      replace zL := Nat.lt_of_lt_of_le zL bq.size
      replace cP0 := cell_later bq cP0
      replace cP1 := cell_later bq cP1
      replace zP := Nat.lt_of_lt_of_le zP bq.size
      have cA0 : w3.cell? ⟨w2.heap.size, 0, none⟩ = some (.int .i64 0) := cell_later hc (by simp [go_sem])
      have cA1 : w3.cell? ⟨w2.heap.size, 1, none⟩ = some (.int .i64 A1) := cell_later hc (by simp [go_sem])
      have cA2 : w3.cell? ⟨w2.heap.size, 2, none⟩ = some (.int .i64 A2) := cell_later hc (by simp [go_sem])
      have zA : w2.heap.size < w3.heap.size := by omega
      replace ry := ry.below bq
      replace hb := hb.trans (bq.mono hb.size)
      clear hc bq bp hbt
      go_wp2_with fail
      have bp : ∀ o0, Below w3.heap.size w3 (w3.alloc o0) := fun o0 => (Below.refl _ _).alloc (Nat.le_refl _) o0
      have hbt : ∀ o0, Below w.heap.size w (w3.alloc o0) := fun o0 => hb.trans ((bp o0).mono hb.size)
      refine Calls.mono (HMF.out _ (ry.below (bp _)).read) ?_
      rintro e w4 ⟨rfl, hc⟩
      have s4 : w3.heap.size + 1 ≤ w4.heap.size := by have := hc.size; simp at this; omega
      have bq : Below w3.heap.size w3 w4 := (bp _).trans (hc.mono (bp _).size)
      replace cF0 := cell_later bq cF0
      replace zF := Nat.lt_of_lt_of_le zF bq.size
      replace cL0 := cell_later bq cL0
      replace cL1 := cell_later bq cL1
      replace cL2 := cell_later bq cL2
      replace zL := Nat.lt_of_lt_of_le zL bq.size
      replace cP0 := cell_later bq cP0
      replace cP1 := cell_later bq cP1
      replace zP := Nat.lt_of_lt_of_le zP bq.size
      replace cA0 := cell_later bq cA0
      replace cA1 := cell_later bq cA1
      replace cA2 := cell_later bq cA2
      replace zA := Nat.lt_of_lt_of_le zA bq.size
      have cE0 : w4.cell? ⟨w3.heap.size, 0, none⟩ = some (.int .i64 0) := cell_later hc (by simp [go_sem])
      have cE1 : w4.cell? ⟨w3.heap.size, 1, none⟩ = some (.int .i64 E1) := cell_later hc (by simp [go_sem])
      have cE2 : w4.cell? ⟨w3.heap.size, 2, none⟩ = some (.int .i64 E2) := cell_later hc (by simp [go_sem])
      have zE : w3.heap.size < w4.heap.size := by omega
      replace ry := ry.below bq
      replace hb := hb.trans (bq.mono hb.size)
      clear hc bq bp hbt
      go_wp2_with fail
      have bp : ∀ o0, Below w4.heap.size w4 (w4.alloc o0) := fun o0 => (Below.refl _ _).alloc (Nat.le_refl _) o0
      have hbt : ∀ o0, Below w.heap.size w (w4.alloc o0) := fun o0 => hb.trans ((bp o0).mono hb.size)
      refine Calls.mono (HMG.out _ (ry.below (bp _)).read) ?_
      rintro e w5 ⟨rfl, hc⟩
      have s5 : w4.heap.size + 1 ≤ w5.heap.size := by have := hc.size; simp at this; omega
      have bq : Below w4.heap.size w4 w5 := (bp _).trans (hc.mono (bp _).size)
      replace cF0 := cell_later bq cF0
      replace zF := Nat.lt_of_lt_of_le zF bq.size
      replace cL0 := cell_later bq cL0
      replace cL1 := cell_later bq cL1
      replace cL2 := cell_later bq cL2
      replace zL := Nat.lt_of_lt_of_le zL bq.size
      replace cP0 := cell_later bq cP0
      replace cP1 := cell_later bq cP1
      replace zP := Nat.lt_of_lt_of_le zP bq.size
      replace cA0 := cell_later bq cA0
      replace cA1 := cell_later bq cA1
      replace cA2 := cell_later bq cA2
      replace zA := Nat.lt_of_lt_of_le zA bq.size
      replace cE0 := cell_later bq cE0
      replace cE1 := cell_later bq cE1
      replace cE2 := cell_later bq cE2
      replace zE := Nat.lt_of_lt_of_le zE bq.size
      have cZ0 : w5.cell? ⟨w4.heap.size, 0, none⟩ = some (.int .i64 0) := cell_later hc (by simp [go_sem])
      have cZ1 : w5.cell? ⟨w4.heap.size, 1, none⟩ = some (.int .i64 0) := cell_later hc (by simp [go_sem])
      have cZ2 : w5.cell? ⟨w4.heap.size, 2, none⟩ = some (.int .i64 0) := cell_later hc (by simp [go_sem])
      have zZ : w4.heap.size < w5.heap.size := by omega
      replace ry := ry.below bq
      replace hb := hb.trans (bq.mono hb.size)
      clear hc bq bp hbt
      go_wp2_with fail
      have bp : ∀ o0, Below w5.heap.size w5 (w5.alloc o0) := fun o0 => (Below.refl _ _).alloc (Nat.le_refl _) o0
      have hbt : ∀ o0, Below w.heap.size w (w5.alloc o0) := fun o0 => hb.trans ((bp o0).mono hb.size)
      refine Calls.mono (HMO.out _ (ry.below (bp _)).read) ?_
      rintro e w6 ⟨rfl, hc⟩
      have s6 : w5.heap.size + 1 ≤ w6.heap.size := by have := hc.size; simp at this; omega
      have bq : Below w5.heap.size w5 w6 := (bp _).trans (hc.mono (bp _).size)
      replace cF0 := cell_later bq cF0
      replace zF := Nat.lt_of_lt_of_le zF bq.size
      replace cL0 := cell_later bq cL0
      replace cL1 := cell_later bq cL1
      replace cL2 := cell_later bq cL2
      replace zL := Nat.lt_of_lt_of_le zL bq.size
      replace cP0 := cell_later bq cP0
      replace cP1 := cell_later bq cP1
      replace zP := Nat.lt_of_lt_of_le zP bq.size
      replace cA0 := cell_later bq cA0
      replace cA1 := cell_later bq cA1
      replace cA2 := cell_later bq cA2
      replace zA := Nat.lt_of_lt_of_le zA bq.size
      replace cE0 := cell_later bq cE0
      replace cE1 := cell_later bq cE1
      replace cE2 := cell_later bq cE2
      replace zE := Nat.lt_of_lt_of_le zE bq.size
      replace cZ0 := cell_later bq cZ0
      replace cZ1 := cell_later bq cZ1
      replace cZ2 := cell_later bq cZ2
      replace zZ := Nat.lt_of_lt_of_le zZ bq.size
      have cG0 : w6.cell? ⟨w5.heap.size, 0, none⟩ = some (.int .i64 0) := cell_later hc (by simp [go_sem])
      have cG1 : w6.cell? ⟨w5.heap.size, 1, none⟩ = some (.int .i64 G1) := cell_later hc (by simp [go_sem])
      have cG2 : w6.cell? ⟨w5.heap.size, 2, none⟩ = some (.int .i64 G2) := cell_later hc (by simp [go_sem])
      have zG : w5.heap.size < w6.heap.size := by omega
      replace ry := ry.below bq
      replace hb := hb.trans (bq.mono hb.size)
      clear hc bq bp hbt
      go_wp2_with fail
      have bp : ∀ o0, Below w6.heap.size w6 (w6.alloc o0) := fun o0 => (Below.refl _ _).alloc (Nat.le_refl _) o0
      have hbt : ∀ o0, Below w.heap.size w (w6.alloc o0) := fun o0 => hb.trans ((bp o0).mono hb.size)
      obtain ⟨w7, hw7⟩ : ∃ x, (w6.alloc (.cells #[.int .i64 0, .int .i64 O1, .int .i64 O2] 33)) = x := ⟨_, rfl⟩
      have hc : Below ((w6.alloc (.cells #[.int .i64 0, .int .i64 O1, .int .i64 O2] 33))).heap.size ((w6.alloc (.cells #[.int .i64 0, .int .i64 O1, .int .i64 O2] 33))) w7 := hw7 ▸ Below.refl _ _
      have s7 : w6.heap.size + 1 ≤ w7.heap.size := by have := hc.size; simp at this; omega
      have bq : Below w6.heap.size w6 w7 := (bp _).trans (hc.mono (bp _).size)
      replace cF0 := cell_later bq cF0
      replace zF := Nat.lt_of_lt_of_le zF bq.size
      replace cL0 := cell_later bq cL0
      replace cL1 := cell_later bq cL1
      replace cL2 := cell_later bq cL2
      replace zL := Nat.lt_of_lt_of_le zL bq.size
      replace cP0 := cell_later bq cP0
      replace cP1 := cell_later bq cP1
      replace zP := Nat.lt_of_lt_of_le zP bq.size
      replace cA0 := cell_later bq cA0
      replace cA1 := cell_later bq cA1
      replace cA2 := cell_later bq cA2
      replace zA := Nat.lt_of_lt_of_le zA bq.size
      replace cE0 := cell_later bq cE0
      replace cE1 := cell_later bq cE1
      replace cE2 := cell_later bq cE2
      replace zE := Nat.lt_of_lt_of_le zE bq.size
      replace cZ0 := cell_later bq cZ0
      replace cZ1 := cell_later bq cZ1
      replace cZ2 := cell_later bq cZ2
      replace zZ := Nat.lt_of_lt_of_le zZ bq.size
      replace cG0 := cell_later bq cG0
      replace cG1 := cell_later bq cG1
      replace cG2 := cell_later bq cG2
      replace zG := Nat.lt_of_lt_of_le zG bq.size
      have cO0 : w7.cell? ⟨w6.heap.size, 0, none⟩ = some (.int .i64 0) := cell_later hc (by simp [go_sem])
      have cO1 : w7.cell? ⟨w6.heap.size, 1, none⟩ = some (.int .i64 O1) := cell_later hc (by simp [go_sem])
      have cO2 : w7.cell? ⟨w6.heap.size, 2, none⟩ = some (.int .i64 O2) := cell_later hc (by simp [go_sem])
      have zO : w6.heap.size < w7.heap.size := by omega
      replace ry := ry.below bq
      replace hb := hb.trans (bq.mono hb.size)
      clear hc bq bp hbt
      rw [hw7]
      clear hw7
      refine region_join (fun a a' w' => ∃ (x71 x72 x73 x74 x75 x76 x77 x78 x79 x80 x81 x82 x83 : Value), a' = ((((((((((((((a.put (some 71) x71).put (some 72) x72).put (some 73) x73).put (some 74) x74).put (some 75) x75).put (some 76) x76).put (some 77) x77).put (some 78) x78).put (some 79) x79).put (some 80) x80).put (some 81) x81).put (some 82) x82).put (some 83) x83).put (some 84) (.bool false)) ∧ Below w.heap.size w w' ∧ RowI .u8 5 w' w.heap.size w1.heap.size (.slice ay ys.length ky) ys.length ys ∧ w'.cell? ⟨w1.heap.size, 0, none⟩ = some (.slice ay ys.length ky) ∧ w1.heap.size < w'.heap.size ∧ w'.cell? ⟨w1.heap.size + 1, 0, none⟩ = some (.int .i64 W) ∧ w'.cell? ⟨w1.heap.size + 1, 1, none⟩ = some (.bool Q) ∧ w'.cell? ⟨w1.heap.size + 1, 2, none⟩ = some (.int .i64 S) ∧ w1.heap.size + 1 < w'.heap.size ∧ w'.cell? ⟨w1.heap.size + 1 + 1, 0, none⟩ = some (.int .i64 L) ∧ w'.cell? ⟨w1.heap.size + 1 + 1, 1, none⟩ = some (.int .i64 R) ∧ w1.heap.size + 1 + 1 < w'.heap.size ∧ w'.cell? ⟨w2.heap.size, 0, none⟩ = some (.int .i64 0) ∧ w'.cell? ⟨w2.heap.size, 1, none⟩ = some (.int .i64 A1) ∧ w'.cell? ⟨w2.heap.size, 2, none⟩ = some (.int .i64 A2) ∧ w2.heap.size < w'.heap.size ∧ w'.cell? ⟨w3.heap.size, 0, none⟩ = some (.int .i64 0) ∧ w'.cell? ⟨w3.heap.size, 1, none⟩ = some (.int .i64 E1) ∧ w'.cell? ⟨w3.heap.size, 2, none⟩ = some (.int .i64 E2) ∧ w3.heap.size < w'.heap.size ∧ w'.cell? ⟨w4.heap.size, 0, none⟩ = some (.int .i64 0) ∧ w'.cell? ⟨w4.heap.size, 1, none⟩ = some (.int .i64 0) ∧ w'.cell? ⟨w4.heap.size, 2, none⟩ = some (.int .i64 0) ∧ w4.heap.size < w'.heap.size ∧ w'.cell? ⟨w5.heap.size, 0, none⟩ = some (.int .i64 0) ∧ w'.cell? ⟨w5.heap.size, 1, none⟩ = some (.int .i64 G1) ∧ w'.cell? ⟨w5.heap.size, 2, none⟩ = some (.int .i64 G2) ∧ w5.heap.size < w'.heap.size ∧ w'.cell? ⟨w6.heap.size, 0, none⟩ = some (.int .i64 0) ∧ w'.cell? ⟨w6.heap.size, 1, none⟩ = some (.int .i64 O1) ∧ w'.cell? ⟨w6.heap.size, 2, none⟩ = some (.int .i64 O2) ∧ w6.heap.size < w'.heap.size) ?_ ?_
      · skip
        by_cases hO : O1 = L ∧ O2 = R
        · have qOS : ∀ w, (binOp .neq 29 (.agg #[.int .i64 O1, .int .i64 O2]) (.agg #[.int .i64 L, .int .i64 R])).run Tryd.prog w = .ok (.bool false) w := fun w => by rw [neqSpot, decide_eq_false (fun h => h hO)]
          clear hO m6 MB
          have bd : Below w7.heap.size w7 w7.drew := (Below.refl _ _).drew
          refine wp_region_held_drew (S := fun w' => Below w.heap.size w w' ∧ w'.cell? ⟨w6.heap.size, 1, none⟩ = some (.int .i64 O1) ∧ w'.cell? ⟨w6.heap.size, 2, none⟩ = some (.int .i64 O2) ∧ w'.cell? ⟨w1.heap.size + 1 + 1, 0, none⟩ = some (.int .i64 L) ∧ w'.cell? ⟨w1.heap.size + 1 + 1, 1, none⟩ = some (.int .i64 R)) (by kernel_rfl) ⟨(hb.trans (bd.mono hb.size)), cell_later bd cO1, cell_later bd cO2, cell_later bd cP0, cell_later bd cP1⟩ (fun hS => ?_)
          obtain ⟨D7, hD⟩ : ∃ D, w7.drew = D := ⟨_, rfl⟩
          rw [hD] at hS bd ⊢
          have hc := bd
          clear hD bd
          have s8 : w7.heap.size ≤ D7.heap.size := hc.size
          have bq := hc
          replace cF0 := cell_later bq cF0
          replace zF := Nat.lt_of_lt_of_le zF bq.size
          replace cL0 := cell_later bq cL0
          replace cL1 := cell_later bq cL1
          replace cL2 := cell_later bq cL2
          replace zL := Nat.lt_of_lt_of_le zL bq.size
          replace cP0 := cell_later bq cP0
          replace cP1 := cell_later bq cP1
          replace zP := Nat.lt_of_lt_of_le zP bq.size
          replace cA0 := cell_later bq cA0
          replace cA1 := cell_later bq cA1
          replace cA2 := cell_later bq cA2
          replace zA := Nat.lt_of_lt_of_le zA bq.size
          replace cE0 := cell_later bq cE0
          replace cE1 := cell_later bq cE1
          replace cE2 := cell_later bq cE2
          replace zE := Nat.lt_of_lt_of_le zE bq.size
          replace cZ0 := cell_later bq cZ0
          replace cZ1 := cell_later bq cZ1
          replace cZ2 := cell_later bq cZ2
          replace zZ := Nat.lt_of_lt_of_le zZ bq.size
          replace cG0 := cell_later bq cG0
          replace cG1 := cell_later bq cG1
          replace cG2 := cell_later bq cG2
          replace zG := Nat.lt_of_lt_of_le zG bq.size
          replace cO0 := cell_later bq cO0
          replace cO1 := cell_later bq cO1
          replace cO2 := cell_later bq cO2
          replace zO := Nat.lt_of_lt_of_le zO bq.size
          replace ry := ry.below bq
          replace hb := hb.trans (bq.mono hb.size)
          clear hc bq
          refine wpAnyH_take (i := 0) (v := (.pointer (some ⟨w6.heap.size, 1, none⟩))) rfl (by as_aux_lemma => kernel_rfl) (by as_aux_lemma => kernel_rfl) (by as_aux_lemma => kernel_rfl) (fun _ _ _ h => nomatch h.1) (Or.inl ⟨by kernel_rfl, ?_⟩) hS ?_
          · intro w hSw; (try dsimp only at hSw); go_simp; all_goals (try omega)
          (try simp only [Act.put, List.getElem_toArray, List.getElem_cons_zero, List.getElem_cons_succ, List.setIfInBounds_toArray, List.set_cons_zero, List.set_cons_succ])
          refine wpAnyH_take (i := 1) (v := (.agg #[.int .i64 O1, .int .i64 O2])) rfl (by as_aux_lemma => kernel_rfl) (by as_aux_lemma => kernel_rfl) (by as_aux_lemma => kernel_rfl) (fun _ _ _ h => nomatch h.1) (Or.inl ⟨by kernel_rfl, ?_⟩) hS ?_
          · intro w hSw; (try dsimp only at hSw); obtain ⟨hSb, hl0, hl1, hl2, hl3⟩ := hSw; go_simp; all_goals (try omega)
          (try simp only [Act.put, List.getElem_toArray, List.getElem_cons_zero, List.getElem_cons_succ, List.setIfInBounds_toArray, List.set_cons_zero, List.set_cons_succ])
          refine wpAnyH_take (i := 2) (v := (.agg #[.int .i64 L, .int .i64 R])) rfl (by as_aux_lemma => kernel_rfl) (by as_aux_lemma => kernel_rfl) (by as_aux_lemma => kernel_rfl) (fun _ _ _ h => nomatch h.1) (Or.inl ⟨by kernel_rfl, ?_⟩) hS ?_
          · intro w hSw; (try dsimp only at hSw); obtain ⟨hSb, hl0, hl1, hl2, hl3⟩ := hSw; go_simp; all_goals (try omega)
          (try simp only [Act.put, List.getElem_toArray, List.getElem_cons_zero, List.getElem_cons_succ, List.setIfInBounds_toArray, List.set_cons_zero, List.set_cons_succ])
          refine wpAnyH_take (i := 3) (v := (.bool false)) rfl (by as_aux_lemma => kernel_rfl) (by as_aux_lemma => kernel_rfl) (by as_aux_lemma => kernel_rfl) (fun _ _ _ h => nomatch h.1) (Or.inl ⟨by kernel_rfl, ?_⟩) hS ?_
          · intro w hSw; (try dsimp only at hSw); go_simp; all_goals (try omega)
          (try simp only [Act.put, List.getElem_toArray, List.getElem_cons_zero, List.getElem_cons_succ, List.setIfInBounds_toArray, List.set_cons_zero, List.set_cons_succ])
          refine wpAnyH_take (i := 4) (v := (.bool false)) rfl (by as_aux_lemma => kernel_rfl) (by as_aux_lemma => kernel_rfl) (by as_aux_lemma => kernel_rfl) (fun _ _ _ h => nomatch h.1) (Or.inl ⟨by kernel_rfl, ?_⟩) hS ?_
          · intro w hSw; (try dsimp only at hSw); go_simp; all_goals (try omega)
          (try simp only [Act.put, List.getElem_toArray, List.getElem_cons_zero, List.getElem_cons_succ, List.setIfInBounds_toArray, List.set_cons_zero, List.set_cons_succ])
          refine wpAnyH_take (i := 5) (v := undef) rfl (by as_aux_lemma => kernel_rfl) (by as_aux_lemma => kernel_rfl) (by as_aux_lemma => kernel_rfl) (fun _ _ _ h => nomatch h.1) (Or.inr ⟨by kernel_rfl, rfl⟩) hS ?_
          (try simp only [Act.put, List.getElem_toArray, List.getElem_cons_zero, List.getElem_cons_succ, List.setIfInBounds_toArray, List.set_cons_zero, List.set_cons_succ])
          refine wpAnyH_take (i := 6) (v := undef) rfl (by as_aux_lemma => kernel_rfl) (by as_aux_lemma => kernel_rfl) (by as_aux_lemma => kernel_rfl) (fun _ _ _ h => nomatch h.1) (Or.inr ⟨by kernel_rfl, rfl⟩) hS ?_
          (try simp only [Act.put, List.getElem_toArray, List.getElem_cons_zero, List.getElem_cons_succ, List.setIfInBounds_toArray, List.set_cons_zero, List.set_cons_succ])
          refine wpAnyH_take (i := 7) (v := undef) rfl (by as_aux_lemma => kernel_rfl) (by as_aux_lemma => kernel_rfl) (by as_aux_lemma => kernel_rfl) (fun _ _ _ h => nomatch h.1) (Or.inr ⟨by kernel_rfl, rfl⟩) hS ?_
          (try simp only [Act.put, List.getElem_toArray, List.getElem_cons_zero, List.getElem_cons_succ, List.setIfInBounds_toArray, List.set_cons_zero, List.set_cons_succ])
          refine wpAnyH_take (i := 8) (v := undef) rfl (by as_aux_lemma => kernel_rfl) (by as_aux_lemma => kernel_rfl) (by as_aux_lemma => kernel_rfl) (fun _ _ _ h => nomatch h.1) (Or.inr ⟨by kernel_rfl, rfl⟩) hS ?_
          (try simp only [Act.put, List.getElem_toArray, List.getElem_cons_zero, List.getElem_cons_succ, List.setIfInBounds_toArray, List.set_cons_zero, List.set_cons_succ])
          refine wpAnyH_take (i := 9) (v := undef) rfl (by as_aux_lemma => kernel_rfl) (by as_aux_lemma => kernel_rfl) (by as_aux_lemma => kernel_rfl) (fun _ _ _ h => nomatch h.1) (Or.inr ⟨by kernel_rfl, rfl⟩) hS ?_
          (try simp only [Act.put, List.getElem_toArray, List.getElem_cons_zero, List.getElem_cons_succ, List.setIfInBounds_toArray, List.set_cons_zero, List.set_cons_succ])
          refine wpAnyH_take (i := 10) (v := undef) rfl (by as_aux_lemma => kernel_rfl) (by as_aux_lemma => kernel_rfl) (by as_aux_lemma => kernel_rfl) (fun _ _ _ h => nomatch h.1) (Or.inr ⟨by kernel_rfl, rfl⟩) hS ?_
          (try simp only [Act.put, List.getElem_toArray, List.getElem_cons_zero, List.getElem_cons_succ, List.setIfInBounds_toArray, List.set_cons_zero, List.set_cons_succ])
          refine wpAnyH_take (i := 11) (v := undef) rfl (by as_aux_lemma => kernel_rfl) (by as_aux_lemma => kernel_rfl) (by as_aux_lemma => kernel_rfl) (fun _ _ _ h => nomatch h.1) (Or.inr ⟨by kernel_rfl, rfl⟩) hS ?_
          (try simp only [Act.put, List.getElem_toArray, List.getElem_cons_zero, List.getElem_cons_succ, List.setIfInBounds_toArray, List.set_cons_zero, List.set_cons_succ])
          refine wpAnyH_take (i := 12) (v := undef) rfl (by as_aux_lemma => kernel_rfl) (by as_aux_lemma => kernel_rfl) (by as_aux_lemma => kernel_rfl) (fun _ _ _ h => nomatch h.1) (Or.inr ⟨by kernel_rfl, rfl⟩) hS ?_
          (try simp only [Act.put, List.getElem_toArray, List.getElem_cons_zero, List.getElem_cons_succ, List.setIfInBounds_toArray, List.set_cons_zero, List.set_cons_succ])
          refine wpAnyH_take (i := 13) (v := (.bool false)) rfl (by as_aux_lemma => kernel_rfl) (by as_aux_lemma => kernel_rfl) (by as_aux_lemma => kernel_rfl) (fun _ _ _ h => nomatch h.1) (Or.inl ⟨by kernel_rfl, ?_⟩) hS ?_
          · intro w hSw; (try dsimp only at hSw); go_simp; all_goals (try omega)
          (try simp only [Act.put, List.getElem_toArray, List.getElem_cons_zero, List.getElem_cons_succ, List.setIfInBounds_toArray, List.set_cons_zero, List.set_cons_succ])
          refine wpAnyH_done (by kernel_rfl) ?_ _
          refine ⟨rfl, (.pointer (some ⟨w6.heap.size, 1, none⟩)), (.agg #[.int .i64 O1, .int .i64 O2]), (.agg #[.int .i64 L, .int .i64 R]), (.bool false), (.bool false), (undef), (undef), (undef), (undef), (undef), (undef), (undef), (undef), ?_, hb, ry, cF0, zF, cL0, cL1, cL2, zL, cP0, cP1, zP, cA0, cA1, cA2, zA, cE0, cE1, cE2, zE, cZ0, cZ1, cZ2, zZ, cG0, cG1, cG2, zG, cO0, cO1, cO2, zO⟩
          (try simp only [Act.put, List.getElem_toArray, List.getElem_cons_zero, List.getElem_cons_succ, List.setIfInBounds_toArray, List.set_cons_zero, List.set_cons_succ])
        · have qOS : ∀ w, (binOp .neq 29 (.agg #[.int .i64 O1, .int .i64 O2]) (.agg #[.int .i64 L, .int .i64 R])).run Tryd.prog w = .ok (.bool true) w := fun w => by rw [neqSpot, decide_eq_true hO]
          have hBB : L = B1 ∧ R = B2 := by have e := m6 (fun e => hO (by rw [Prod.mk.injEq] at e; exact e)); rw [Prod.mk.injEq] at e; exact ⟨e.1.symm, e.2.symm⟩
          obtain ⟨rfl, rfl⟩ := hBB
          have HMB : Hid _ := MB
          clear hO m6 MB
          have bd : Below w7.heap.size w7 w7.drew := (Below.refl _ _).drew
          refine wp_region_held_drew (S := fun w' => Below w.heap.size w w' ∧ w'.cell? ⟨w1.heap.size, 0, none⟩ = some (.slice ay ys.length ky) ∧ w'.cell? ⟨w1.heap.size + 1, 0, none⟩ = some (.int .i64 W) ∧ w'.cell? ⟨w1.heap.size + 1, 1, none⟩ = some (.bool Q) ∧ w'.cell? ⟨w1.heap.size + 1, 2, none⟩ = some (.int .i64 S) ∧ w'.cell? ⟨w6.heap.size, 1, none⟩ = some (.int .i64 O1) ∧ w'.cell? ⟨w6.heap.size, 2, none⟩ = some (.int .i64 O2) ∧ w'.cell? ⟨w1.heap.size + 1 + 1, 0, none⟩ = some (.int .i64 L) ∧ w'.cell? ⟨w1.heap.size + 1 + 1, 1, none⟩ = some (.int .i64 R)) (by kernel_rfl) ⟨(hb.trans (bd.mono hb.size)), cell_later bd cF0, cell_later bd cL0, cell_later bd cL1, cell_later bd cL2, cell_later bd cO1, cell_later bd cO2, cell_later bd cP0, cell_later bd cP1⟩ (fun hS => ?_)
          obtain ⟨D7, hD⟩ : ∃ D, w7.drew = D := ⟨_, rfl⟩
          rw [hD] at hS bd ⊢
          have hc := bd
          clear hD bd
          have s8 : w7.heap.size ≤ D7.heap.size := hc.size
          have bq := hc
          replace cF0 := cell_later bq cF0
          replace zF := Nat.lt_of_lt_of_le zF bq.size
          replace cL0 := cell_later bq cL0
          replace cL1 := cell_later bq cL1
          replace cL2 := cell_later bq cL2
          replace zL := Nat.lt_of_lt_of_le zL bq.size
          replace cP0 := cell_later bq cP0
          replace cP1 := cell_later bq cP1
          replace zP := Nat.lt_of_lt_of_le zP bq.size
          replace cA0 := cell_later bq cA0
          replace cA1 := cell_later bq cA1
          replace cA2 := cell_later bq cA2
          replace zA := Nat.lt_of_lt_of_le zA bq.size
          replace cE0 := cell_later bq cE0
          replace cE1 := cell_later bq cE1
          replace cE2 := cell_later bq cE2
          replace zE := Nat.lt_of_lt_of_le zE bq.size
          replace cZ0 := cell_later bq cZ0
          replace cZ1 := cell_later bq cZ1
          replace cZ2 := cell_later bq cZ2
          replace zZ := Nat.lt_of_lt_of_le zZ bq.size
          replace cG0 := cell_later bq cG0
          replace cG1 := cell_later bq cG1
          replace cG2 := cell_later bq cG2
          replace zG := Nat.lt_of_lt_of_le zG bq.size
          replace cO0 := cell_later bq cO0
          replace cO1 := cell_later bq cO1
          replace cO2 := cell_later bq cO2
          replace zO := Nat.lt_of_lt_of_le zO bq.size
          replace ry := ry.below bq
          replace hb := hb.trans (bq.mono hb.size)
          clear hc bq
          refine wpAnyH_take (i := 0) (v := (.pointer (some ⟨w6.heap.size, 1, none⟩))) rfl (by as_aux_lemma => kernel_rfl) (by as_aux_lemma => kernel_rfl) (by as_aux_lemma => kernel_rfl) (fun _ _ _ h => nomatch h.1) (Or.inl ⟨by kernel_rfl, ?_⟩) hS ?_
          · intro w hSw; (try dsimp only at hSw); go_simp; all_goals (try omega)
          (try simp only [Act.put, List.getElem_toArray, List.getElem_cons_zero, List.getElem_cons_succ, List.setIfInBounds_toArray, List.set_cons_zero, List.set_cons_succ])
          refine wpAnyH_take (i := 1) (v := (.agg #[.int .i64 O1, .int .i64 O2])) rfl (by as_aux_lemma => kernel_rfl) (by as_aux_lemma => kernel_rfl) (by as_aux_lemma => kernel_rfl) (fun _ _ _ h => nomatch h.1) (Or.inl ⟨by kernel_rfl, ?_⟩) hS ?_
          · intro w hSw; (try dsimp only at hSw); obtain ⟨hSb, hl0, hl1, hl2, hl3, hl4, hl5, hl6, hl7⟩ := hSw; go_simp; all_goals (try omega)
          (try simp only [Act.put, List.getElem_toArray, List.getElem_cons_zero, List.getElem_cons_succ, List.setIfInBounds_toArray, List.set_cons_zero, List.set_cons_succ])
          refine wpAnyH_take (i := 2) (v := (.agg #[.int .i64 L, .int .i64 R])) rfl (by as_aux_lemma => kernel_rfl) (by as_aux_lemma => kernel_rfl) (by as_aux_lemma => kernel_rfl) (fun _ _ _ h => nomatch h.1) (Or.inl ⟨by kernel_rfl, ?_⟩) hS ?_
          · intro w hSw; (try dsimp only at hSw); obtain ⟨hSb, hl0, hl1, hl2, hl3, hl4, hl5, hl6, hl7⟩ := hSw; go_simp; all_goals (try omega)
          (try simp only [Act.put, List.getElem_toArray, List.getElem_cons_zero, List.getElem_cons_succ, List.setIfInBounds_toArray, List.set_cons_zero, List.set_cons_succ])
          refine wpAnyH_take (i := 3) (v := (.bool true)) rfl (by as_aux_lemma => kernel_rfl) (by as_aux_lemma => kernel_rfl) (by as_aux_lemma => kernel_rfl) (fun _ _ _ h => nomatch h.1) (Or.inl ⟨by kernel_rfl, ?_⟩) hS ?_
          · intro w hSw; (try dsimp only at hSw); go_simp; all_goals (try omega)
          (try simp only [Act.put, List.getElem_toArray, List.getElem_cons_zero, List.getElem_cons_succ, List.setIfInBounds_toArray, List.set_cons_zero, List.set_cons_succ])
          refine wpAnyH_take (i := 4) (v := (.bool true)) rfl (by as_aux_lemma => kernel_rfl) (by as_aux_lemma => kernel_rfl) (by as_aux_lemma => kernel_rfl) (fun _ _ _ h => nomatch h.1) (Or.inl ⟨by kernel_rfl, ?_⟩) hS ?_
          · intro w hSw; (try dsimp only at hSw); go_simp; all_goals (try omega)
          (try simp only [Act.put, List.getElem_toArray, List.getElem_cons_zero, List.getElem_cons_succ, List.setIfInBounds_toArray, List.set_cons_zero, List.set_cons_succ])
          refine wpAnyH_take (i := 5) (v := (.agg #[.slice ay ys.length ky])) rfl (by as_aux_lemma => kernel_rfl) (by as_aux_lemma => kernel_rfl) (by as_aux_lemma => kernel_rfl) (fun _ _ _ h => nomatch h.1) (Or.inl ⟨by kernel_rfl, ?_⟩) hS ?_
          · intro w hSw; (try dsimp only at hSw); obtain ⟨hSb, hl0, hl1, hl2, hl3, hl4, hl5, hl6, hl7⟩ := hSw; go_simp; all_goals (try omega)
          (try simp only [Act.put, List.getElem_toArray, List.getElem_cons_zero, List.getElem_cons_succ, List.setIfInBounds_toArray, List.set_cons_zero, List.set_cons_succ])
          refine wpAnyH_take (i := 6) (v := (.agg #[.int .i64 W, .bool Q, .int .i64 S])) rfl (by as_aux_lemma => kernel_rfl) (by as_aux_lemma => kernel_rfl) (by as_aux_lemma => kernel_rfl) (fun _ _ _ h => nomatch h.1) (Or.inl ⟨by kernel_rfl, ?_⟩) hS ?_
          · intro w hSw; (try dsimp only at hSw); obtain ⟨hSb, hl0, hl1, hl2, hl3, hl4, hl5, hl6, hl7⟩ := hSw; go_simp; all_goals (try omega)
          (try simp only [Act.put, List.getElem_toArray, List.getElem_cons_zero, List.getElem_cons_succ, List.setIfInBounds_toArray, List.set_cons_zero, List.set_cons_succ])
          refine wpAnyH_take (i := 7) (v := (.pointer (some ⟨w6.heap.size, 1, none⟩))) rfl (by as_aux_lemma => kernel_rfl) (by as_aux_lemma => kernel_rfl) (by as_aux_lemma => kernel_rfl) (fun _ _ _ h => nomatch h.1) (Or.inl ⟨by kernel_rfl, ?_⟩) hS ?_
          · intro w hSw; (try dsimp only at hSw); go_simp; all_goals (try omega)
          (try simp only [Act.put, List.getElem_toArray, List.getElem_cons_zero, List.getElem_cons_succ, List.setIfInBounds_toArray, List.set_cons_zero, List.set_cons_succ])
          refine wpAnyH_take (i := 8) (v := (.agg #[.int .i64 O1, .int .i64 O2])) rfl (by as_aux_lemma => kernel_rfl) (by as_aux_lemma => kernel_rfl) (by as_aux_lemma => kernel_rfl) (fun _ _ _ h => nomatch h.1) (Or.inl ⟨by kernel_rfl, ?_⟩) hS ?_
          · intro w hSw; (try dsimp only at hSw); obtain ⟨hSb, hl0, hl1, hl2, hl3, hl4, hl5, hl6, hl7⟩ := hSw; go_simp; all_goals (try omega)
          (try simp only [Act.put, List.getElem_toArray, List.getElem_cons_zero, List.getElem_cons_succ, List.setIfInBounds_toArray, List.set_cons_zero, List.set_cons_succ])
          refine wpAnyH_take (i := 11) (v := (.agg #[.int .i64 L, .int .i64 R])) rfl (by as_aux_lemma => kernel_rfl) (by as_aux_lemma => kernel_rfl) (by as_aux_lemma => kernel_rfl) (fun _ _ _ h => nomatch h.1) (Or.inl ⟨by kernel_rfl, ?_⟩) hS ?_
          · intro w hSw; (try dsimp only at hSw); obtain ⟨hSb, hl0, hl1, hl2, hl3, hl4, hl5, hl6, hl7⟩ := hSw; go_simp; all_goals (try omega)
          (try simp only [Act.put, List.getElem_toArray, List.getElem_cons_zero, List.getElem_cons_succ, List.setIfInBounds_toArray, List.set_cons_zero, List.set_cons_succ])
          refine wpAnyH_ready (rs := [9]) (by as_aux_lemma => kernel_rfl) (by simp) ?_
          refine AllReadyH.cons rfl (fun K hK => ?_) AllReadyH.nil
          go_simp
          refine Calls.mono (HMB.out _ ry.read) ?_
          rintro e w9 ⟨rfl, hc⟩
          have s9 : D7.heap.size ≤ w9.heap.size := hc.size
          have bq := hc
          replace cF0 := cell_later bq cF0
          replace zF := Nat.lt_of_lt_of_le zF bq.size
          replace cL0 := cell_later bq cL0
          replace cL1 := cell_later bq cL1
          replace cL2 := cell_later bq cL2
          replace zL := Nat.lt_of_lt_of_le zL bq.size
          replace cP0 := cell_later bq cP0
          replace cP1 := cell_later bq cP1
          replace zP := Nat.lt_of_lt_of_le zP bq.size
          replace cA0 := cell_later bq cA0
          replace cA1 := cell_later bq cA1
          replace cA2 := cell_later bq cA2
          replace zA := Nat.lt_of_lt_of_le zA bq.size
          replace cE0 := cell_later bq cE0
          replace cE1 := cell_later bq cE1
          replace cE2 := cell_later bq cE2
          replace zE := Nat.lt_of_lt_of_le zE bq.size
          replace cZ0 := cell_later bq cZ0
          replace cZ1 := cell_later bq cZ1
          replace cZ2 := cell_later bq cZ2
          replace zZ := Nat.lt_of_lt_of_le zZ bq.size
          replace cG0 := cell_later bq cG0
          replace cG1 := cell_later bq cG1
          replace cG2 := cell_later bq cG2
          replace zG := Nat.lt_of_lt_of_le zG bq.size
          replace cO0 := cell_later bq cO0
          replace cO1 := cell_later bq cO1
          replace cO2 := cell_later bq cO2
          replace zO := Nat.lt_of_lt_of_le zO bq.size
          replace ry := ry.below bq
          replace hb := hb.trans (bq.mono hb.size)
          clear hc bq
          refine hK.out _ _ (⟨hb, cF0, cL0, cL1, cL2, cO1, cO2, cP0, cP1⟩) (fun hS => ?_)
          clear hK K
          (try simp only [Act.put, List.getElem_toArray, List.getElem_cons_zero, List.getElem_cons_succ, List.setIfInBounds_toArray, List.set_cons_zero, List.set_cons_succ])
          refine wpAnyH_take (i := 10) (v := (.agg #[.int .i64 L, .int .i64 R])) rfl (by as_aux_lemma => kernel_rfl) (by as_aux_lemma => kernel_rfl) (by as_aux_lemma => kernel_rfl) (fun _ _ _ h => nomatch h.1) (Or.inl ⟨by kernel_rfl, ?_⟩) hS ?_
          · intro w hSw; (try dsimp only at hSw); go_simp; all_goals (try omega)
          (try simp only [Act.put, List.getElem_toArray, List.getElem_cons_zero, List.getElem_cons_succ, List.setIfInBounds_toArray, List.set_cons_zero, List.set_cons_succ])
          refine wpAnyH_take (i := 12) (v := (.bool false)) rfl (by as_aux_lemma => kernel_rfl) (by as_aux_lemma => kernel_rfl) (by as_aux_lemma => kernel_rfl) (fun _ _ _ h => nomatch h.1) (Or.inl ⟨by kernel_rfl, ?_⟩) hS ?_
          · intro w hSw; (try dsimp only at hSw); go_simp; all_goals (try omega)
          (try simp only [Act.put, List.getElem_toArray, List.getElem_cons_zero, List.getElem_cons_succ, List.setIfInBounds_toArray, List.set_cons_zero, List.set_cons_succ])
          refine wpAnyH_take (i := 13) (v := (.bool false)) rfl (by as_aux_lemma => kernel_rfl) (by as_aux_lemma => kernel_rfl) (by as_aux_lemma => kernel_rfl) (fun _ _ _ h => nomatch h.1) (Or.inl ⟨by kernel_rfl, ?_⟩) hS ?_
          · intro w hSw; (try dsimp only at hSw); go_simp; all_goals (try omega)
          (try simp only [Act.put, List.getElem_toArray, List.getElem_cons_zero, List.getElem_cons_succ, List.setIfInBounds_toArray, List.set_cons_zero, List.set_cons_succ])
          refine wpAnyH_done (by kernel_rfl) ?_ _
          refine ⟨rfl, (.pointer (some ⟨w6.heap.size, 1, none⟩)), (.agg #[.int .i64 O1, .int .i64 O2]), (.agg #[.int .i64 L, .int .i64 R]), (.bool true), (.bool true), (.agg #[.slice ay ys.length ky]), (.agg #[.int .i64 W, .bool Q, .int .i64 S]), (.pointer (some ⟨w6.heap.size, 1, none⟩)), (.agg #[.int .i64 O1, .int .i64 O2]), (.agg #[.int .i64 0, .int .i64 L, .int .i64 R]), (.agg #[.int .i64 L, .int .i64 R]), (.agg #[.int .i64 L, .int .i64 R]), (.bool false), ?_, hb, ry, cF0, zF, cL0, cL1, cL2, zL, cP0, cP1, zP, cA0, cA1, cA2, zA, cE0, cE1, cE2, zE, cZ0, cZ1, cZ2, zZ, cG0, cG1, cG2, zG, cO0, cO1, cO2, zO⟩
          (try simp only [Act.put, List.getElem_toArray, List.getElem_cons_zero, List.getElem_cons_succ, List.setIfInBounds_toArray, List.set_cons_zero, List.set_cons_succ])
      · skip
        rintro a' w27 ⟨x71, x72, x73, x74, x75, x76, x77, x78, x79, x80, x81, x82, x83, rfl, hb, ry, cF0, zF, cL0, cL1, cL2, zL, cP0, cP1, zP, cA0, cA1, cA2, zA, cE0, cE1, cE2, zE, cZ0, cZ1, cZ2, zZ, cG0, cG1, cG2, zG, cO0, cO1, cO2, zO⟩
        clear m6 MB
        simp only [Act.put, List.getElem_toArray, List.getElem_cons_zero, List.getElem_cons_succ, List.setIfInBounds_toArray, List.set_cons_zero, List.set_cons_succ]
        go_wp2_with fail
        refine Calls.mono (HIT.out _ hb) ?_
        rintro e w28 ⟨rfl, hc⟩
        have s28 : w27.heap.size ≤ w28.heap.size := hc.size
        have bq := hc
        replace cF0 := cell_later bq cF0
        replace zF := Nat.lt_of_lt_of_le zF bq.size
        replace cL0 := cell_later bq cL0
        replace cL1 := cell_later bq cL1
        replace cL2 := cell_later bq cL2
        replace zL := Nat.lt_of_lt_of_le zL bq.size
        replace cP0 := cell_later bq cP0
        replace cP1 := cell_later bq cP1
        replace zP := Nat.lt_of_lt_of_le zP bq.size
        replace cA0 := cell_later bq cA0
        replace cA1 := cell_later bq cA1
        replace cA2 := cell_later bq cA2
        replace zA := Nat.lt_of_lt_of_le zA bq.size
        replace cE0 := cell_later bq cE0
        replace cE1 := cell_later bq cE1
        replace cE2 := cell_later bq cE2
        replace zE := Nat.lt_of_lt_of_le zE bq.size
        replace cZ0 := cell_later bq cZ0
        replace cZ1 := cell_later bq cZ1
        replace cZ2 := cell_later bq cZ2
        replace zZ := Nat.lt_of_lt_of_le zZ bq.size
        replace cG0 := cell_later bq cG0
        replace cG1 := cell_later bq cG1
        replace cG2 := cell_later bq cG2
        replace zG := Nat.lt_of_lt_of_le zG bq.size
        replace cO0 := cell_later bq cO0
        replace cO1 := cell_later bq cO1
        replace cO2 := cell_later bq cO2
        replace zO := Nat.lt_of_lt_of_le zO bq.size
        replace ry := ry.below bq
        replace hb := hb.trans (bq.mono hb.size)
        clear hc bq
        go_wp2_with fail
        have bp : ∀ o0, Below w28.heap.size w28 (w28.alloc o0) := fun o0 => (Below.refl _ _).alloc (Nat.le_refl _) o0
        have hbt : ∀ o0, Below w.heap.size w (w28.alloc o0) := fun o0 => hb.trans ((bp o0).mono hb.size)
        obtain ⟨w29, hw29⟩ : ∃ x, (w28.alloc (.cells #[.int .i64 c, .string T] 36)) = x := ⟨_, rfl⟩
        have hc : Below ((w28.alloc (.cells #[.int .i64 c, .string T] 36))).heap.size ((w28.alloc (.cells #[.int .i64 c, .string T] 36))) w29 := hw29 ▸ Below.refl _ _
        have s29 : w28.heap.size + 1 ≤ w29.heap.size := by have := hc.size; simp at this; omega
        have bq : Below w28.heap.size w28 w29 := (bp _).trans (hc.mono (bp _).size)
        replace cF0 := cell_later bq cF0
        replace zF := Nat.lt_of_lt_of_le zF bq.size
        replace cL0 := cell_later bq cL0
        replace cL1 := cell_later bq cL1
        replace cL2 := cell_later bq cL2
        replace zL := Nat.lt_of_lt_of_le zL bq.size
        replace cP0 := cell_later bq cP0
        replace cP1 := cell_later bq cP1
        replace zP := Nat.lt_of_lt_of_le zP bq.size
        replace cA0 := cell_later bq cA0
        replace cA1 := cell_later bq cA1
        replace cA2 := cell_later bq cA2
        replace zA := Nat.lt_of_lt_of_le zA bq.size
        replace cE0 := cell_later bq cE0
        replace cE1 := cell_later bq cE1
        replace cE2 := cell_later bq cE2
        replace zE := Nat.lt_of_lt_of_le zE bq.size
        replace cZ0 := cell_later bq cZ0
        replace cZ1 := cell_later bq cZ1
        replace cZ2 := cell_later bq cZ2
        replace zZ := Nat.lt_of_lt_of_le zZ bq.size
        replace cG0 := cell_later bq cG0
        replace cG1 := cell_later bq cG1
        replace cG2 := cell_later bq cG2
        replace zG := Nat.lt_of_lt_of_le zG bq.size
        replace cO0 := cell_later bq cO0
        replace cO1 := cell_later bq cO1
        replace cO2 := cell_later bq cO2
        replace zO := Nat.lt_of_lt_of_le zO bq.size
        have cT0 : w29.cell? ⟨w28.heap.size, 0, none⟩ = some (.int .i64 c) := cell_later hc (by simp [go_sem])
        have cT1 : w29.cell? ⟨w28.heap.size, 1, none⟩ = some (.string T) := cell_later hc (by simp [go_sem])
        have zT : w28.heap.size < w29.heap.size := by omega
        replace ry := ry.below bq
        replace hb := hb.trans (bq.mono hb.size)
        clear hc bq bp hbt
        rw [hw29]
        clear hw29
        obtain ⟨cb, hcb⟩ : ∃ cb, (c != 0) = cb := ⟨_, rfl⟩
        have hTe0 : cb = false → T.toList.isEmpty = false := fun h => HTT.out.resolve_left (fun h2 => by rw [← hcb] at h; exact h2 (by simpa using h))
        have HTE := hid hTe0
        clear HTT hTe0
        have bd : Below w29.heap.size w29 w29.drew := (Below.refl _ _).drew
        refine wp_region_held_drew (S := fun w' => Below w.heap.size w w' ∧ w'.cell? ⟨w2.heap.size, 1, none⟩ = some (.int .i64 A1) ∧ w'.cell? ⟨w2.heap.size, 2, none⟩ = some (.int .i64 A2) ∧ w'.cell? ⟨w3.heap.size, 1, none⟩ = some (.int .i64 E1) ∧ w'.cell? ⟨w3.heap.size, 2, none⟩ = some (.int .i64 E2) ∧ w'.cell? ⟨w1.heap.size, 0, none⟩ = some (.slice ay ys.length ky) ∧ w'.cell? ⟨w5.heap.size, 0, none⟩ = some (.int .i64 0) ∧ w'.cell? ⟨w1.heap.size + 1, 0, none⟩ = some (.int .i64 W) ∧ w'.cell? ⟨w1.heap.size + 1, 1, none⟩ = some (.bool Q) ∧ w'.cell? ⟨w1.heap.size + 1, 2, none⟩ = some (.int .i64 S) ∧ w'.cell? ⟨w1.heap.size + 1 + 1, 0, none⟩ = some (.int .i64 L) ∧ w'.cell? ⟨w1.heap.size + 1 + 1, 1, none⟩ = some (.int .i64 R) ∧ w'.cell? ⟨w28.heap.size, 0, none⟩ = some (.int .i64 c) ∧ w'.cell? ⟨w28.heap.size, 1, none⟩ = some (.string T) ∧ w'.cell? ⟨w4.heap.size, 1, none⟩ = some (.int .i64 0) ∧ w'.cell? ⟨w4.heap.size, 2, none⟩ = some (.int .i64 0)) (by kernel_rfl) ⟨(hb.trans (bd.mono hb.size)), cell_later bd cA1, cell_later bd cA2, cell_later bd cE1, cell_later bd cE2, cell_later bd cF0, cell_later bd cG0, cell_later bd cL0, cell_later bd cL1, cell_later bd cL2, cell_later bd cP0, cell_later bd cP1, cell_later bd cT0, cell_later bd cT1, cell_later bd cZ1, cell_later bd cZ2⟩ (fun hS => ?_)
        obtain ⟨D29, hD⟩ : ∃ D, w29.drew = D := ⟨_, rfl⟩
        rw [hD] at hS bd ⊢
        have hc := bd
        clear hD bd
        have s30 : w29.heap.size ≤ D29.heap.size := hc.size
        have bq := hc
        replace cF0 := cell_later bq cF0
        replace zF := Nat.lt_of_lt_of_le zF bq.size
        replace cL0 := cell_later bq cL0
        replace cL1 := cell_later bq cL1
        replace cL2 := cell_later bq cL2
        replace zL := Nat.lt_of_lt_of_le zL bq.size
        replace cP0 := cell_later bq cP0
        replace cP1 := cell_later bq cP1
        replace zP := Nat.lt_of_lt_of_le zP bq.size
        replace cA0 := cell_later bq cA0
        replace cA1 := cell_later bq cA1
        replace cA2 := cell_later bq cA2
        replace zA := Nat.lt_of_lt_of_le zA bq.size
        replace cE0 := cell_later bq cE0
        replace cE1 := cell_later bq cE1
        replace cE2 := cell_later bq cE2
        replace zE := Nat.lt_of_lt_of_le zE bq.size
        replace cZ0 := cell_later bq cZ0
        replace cZ1 := cell_later bq cZ1
        replace cZ2 := cell_later bq cZ2
        replace zZ := Nat.lt_of_lt_of_le zZ bq.size
        replace cG0 := cell_later bq cG0
        replace cG1 := cell_later bq cG1
        replace cG2 := cell_later bq cG2
        replace zG := Nat.lt_of_lt_of_le zG bq.size
        replace cO0 := cell_later bq cO0
        replace cO1 := cell_later bq cO1
        replace cO2 := cell_later bq cO2
        replace zO := Nat.lt_of_lt_of_le zO bq.size
        replace cT0 := cell_later bq cT0
        replace cT1 := cell_later bq cT1
        replace zT := Nat.lt_of_lt_of_le zT bq.size
        replace ry := ry.below bq
        replace hb := hb.trans (bq.mono hb.size)
        clear hc bq
        refine wpAnyH_take (i := 0) (v := (.agg #[.slice ay ys.length ky])) rfl (by as_aux_lemma => kernel_rfl) (by as_aux_lemma => kernel_rfl) (by as_aux_lemma => kernel_rfl) (fun _ _ _ h => h) (Or.inl ⟨by kernel_rfl, ?_⟩) hS ?_
        · intro w hSw; (try dsimp only at hSw); obtain ⟨hSb, hl0, hl1, hl2, hl3, hl4, hl5, hl6, hl7, hl8, hl9, hl10, hl11, hl12, hl13, hl14⟩ := hSw; go_simp; all_goals (try omega)
        (try simp only [Act.put, List.getElem_toArray, List.getElem_cons_zero, List.getElem_cons_succ, List.setIfInBounds_toArray, List.set_cons_zero, List.set_cons_succ])
        refine wpAnyH_take (i := 1) (v := (.agg #[.int .i64 W, .bool Q, .int .i64 S])) rfl (by as_aux_lemma => kernel_rfl) (by as_aux_lemma => kernel_rfl) (by as_aux_lemma => kernel_rfl) (fun _ _ _ h => h) (Or.inl ⟨by kernel_rfl, ?_⟩) hS ?_
        · intro w hSw; (try dsimp only at hSw); obtain ⟨hSb, hl0, hl1, hl2, hl3, hl4, hl5, hl6, hl7, hl8, hl9, hl10, hl11, hl12, hl13, hl14⟩ := hSw; go_simp; all_goals (try omega)
        (try simp only [Act.put, List.getElem_toArray, List.getElem_cons_zero, List.getElem_cons_succ, List.setIfInBounds_toArray, List.set_cons_zero, List.set_cons_succ])
        refine wpAnyH_take (i := 2) (v := (.pointer (some ⟨w2.heap.size, 1, none⟩))) rfl (by as_aux_lemma => kernel_rfl) (by as_aux_lemma => kernel_rfl) (by as_aux_lemma => kernel_rfl) (fun _ _ _ h => h) (Or.inl ⟨by kernel_rfl, ?_⟩) hS ?_
        · intro w hSw; (try dsimp only at hSw); go_simp; all_goals (try omega)
        (try simp only [Act.put, List.getElem_toArray, List.getElem_cons_zero, List.getElem_cons_succ, List.setIfInBounds_toArray, List.set_cons_zero, List.set_cons_succ])
        refine wpAnyH_take (i := 3) (v := (.agg #[.int .i64 A1, .int .i64 A2])) rfl (by as_aux_lemma => kernel_rfl) (by as_aux_lemma => kernel_rfl) (by as_aux_lemma => kernel_rfl) (fun _ _ _ h => h) (Or.inl ⟨by kernel_rfl, ?_⟩) hS ?_
        · intro w hSw; (try dsimp only at hSw); obtain ⟨hSb, hl0, hl1, hl2, hl3, hl4, hl5, hl6, hl7, hl8, hl9, hl10, hl11, hl12, hl13, hl14⟩ := hSw; go_simp; all_goals (try omega)
        (try simp only [Act.put, List.getElem_toArray, List.getElem_cons_zero, List.getElem_cons_succ, List.setIfInBounds_toArray, List.set_cons_zero, List.set_cons_succ])
        refine wpAnyH_ready (rs := [4]) (by as_aux_lemma => kernel_rfl) (by simp) ?_
        refine AllReadyH.cons rfl (fun K hK => ?_) AllReadyH.nil
        go_simp
        refine Calls.mono (HFA.out _ ry.read) ?_
        rintro e w31 ⟨rfl, hc⟩
        have s31 : D29.heap.size ≤ w31.heap.size := hc.size
        have bq := hc
        replace cF0 := cell_later bq cF0
        replace zF := Nat.lt_of_lt_of_le zF bq.size
        replace cL0 := cell_later bq cL0
        replace cL1 := cell_later bq cL1
        replace cL2 := cell_later bq cL2
        replace zL := Nat.lt_of_lt_of_le zL bq.size
        replace cP0 := cell_later bq cP0
        replace cP1 := cell_later bq cP1
        replace zP := Nat.lt_of_lt_of_le zP bq.size
        replace cA0 := cell_later bq cA0
        replace cA1 := cell_later bq cA1
        replace cA2 := cell_later bq cA2
        replace zA := Nat.lt_of_lt_of_le zA bq.size
        replace cE0 := cell_later bq cE0
        replace cE1 := cell_later bq cE1
        replace cE2 := cell_later bq cE2
        replace zE := Nat.lt_of_lt_of_le zE bq.size
        replace cZ0 := cell_later bq cZ0
        replace cZ1 := cell_later bq cZ1
        replace cZ2 := cell_later bq cZ2
        replace zZ := Nat.lt_of_lt_of_le zZ bq.size
        replace cG0 := cell_later bq cG0
        replace cG1 := cell_later bq cG1
        replace cG2 := cell_later bq cG2
        replace zG := Nat.lt_of_lt_of_le zG bq.size
        replace cO0 := cell_later bq cO0
        replace cO1 := cell_later bq cO1
        replace cO2 := cell_later bq cO2
        replace zO := Nat.lt_of_lt_of_le zO bq.size
        replace cT0 := cell_later bq cT0
        replace cT1 := cell_later bq cT1
        replace zT := Nat.lt_of_lt_of_le zT bq.size
        replace ry := ry.below bq
        replace hb := hb.trans (bq.mono hb.size)
        clear hc bq
        refine hK.out _ _ (⟨hb, cA1, cA2, cE1, cE2, cF0, cG0, cL0, cL1, cL2, cP0, cP1, cT0, cT1, cZ1, cZ2⟩) (fun hS => ?_)
        clear hK K
        (try simp only [Act.put, List.getElem_toArray, List.getElem_cons_zero, List.getElem_cons_succ, List.setIfInBounds_toArray, List.set_cons_zero, List.set_cons_succ])
        refine wpAnyH_take (i := 5) (v := (.bool true)) rfl (by as_aux_lemma => kernel_rfl) (by as_aux_lemma => kernel_rfl) (by as_aux_lemma => kernel_rfl) (fun _ _ _ h => h) (Or.inl ⟨by kernel_rfl, ?_⟩) hS ?_
        · intro w hSw; (try dsimp only at hSw); go_simp; all_goals (try omega)
        (try simp only [Act.put, List.getElem_toArray, List.getElem_cons_zero, List.getElem_cons_succ, List.setIfInBounds_toArray, List.set_cons_zero, List.set_cons_succ])
        refine wpAnyH_take (i := 6) (v := (.bool true)) rfl (by as_aux_lemma => kernel_rfl) (by as_aux_lemma => kernel_rfl) (by as_aux_lemma => kernel_rfl) (fun _ _ _ h => h) (Or.inl ⟨by kernel_rfl, ?_⟩) hS ?_
        · intro w hSw; (try dsimp only at hSw); go_simp; all_goals (try omega)
        (try simp only [Act.put, List.getElem_toArray, List.getElem_cons_zero, List.getElem_cons_succ, List.setIfInBounds_toArray, List.set_cons_zero, List.set_cons_succ])
        refine wpAnyH_take (i := 7) (v := (.bool false)) rfl (by as_aux_lemma => kernel_rfl) (by as_aux_lemma => kernel_rfl) (by as_aux_lemma => kernel_rfl) (fun _ _ _ h => h) (Or.inl ⟨by kernel_rfl, ?_⟩) hS ?_
        · intro w hSw; (try dsimp only at hSw); go_simp; all_goals (try omega)
        (try simp only [Act.put, List.getElem_toArray, List.getElem_cons_zero, List.getElem_cons_succ, List.setIfInBounds_toArray, List.set_cons_zero, List.set_cons_succ])
        refine wpAnyH_take (i := 8) (v := (.bool true)) rfl (by as_aux_lemma => kernel_rfl) (by as_aux_lemma => kernel_rfl) (by as_aux_lemma => kernel_rfl) (fun _ _ _ h => h) (Or.inl ⟨by kernel_rfl, ?_⟩) hS ?_
        · intro w hSw; (try dsimp only at hSw); go_simp; all_goals (try omega)
        (try simp only [Act.put, List.getElem_toArray, List.getElem_cons_zero, List.getElem_cons_succ, List.setIfInBounds_toArray, List.set_cons_zero, List.set_cons_succ])
        refine wpAnyH_take (i := 9) (v := (.bool true)) rfl (by as_aux_lemma => kernel_rfl) (by as_aux_lemma => kernel_rfl) (by as_aux_lemma => kernel_rfl) (fun _ _ _ h => h) (Or.inl ⟨by kernel_rfl, ?_⟩) hS ?_
        · intro w hSw; (try dsimp only at hSw); go_simp; all_goals (try omega)
        (try simp only [Act.put, List.getElem_toArray, List.getElem_cons_zero, List.getElem_cons_succ, List.setIfInBounds_toArray, List.set_cons_zero, List.set_cons_succ])
        refine wpAnyH_take (i := 10) (v := undef) rfl (by as_aux_lemma => kernel_rfl) (by as_aux_lemma => kernel_rfl) (by as_aux_lemma => kernel_rfl) (fun _ _ _ h => h) (Or.inr ⟨by kernel_rfl, rfl⟩) hS ?_
        (try simp only [Act.put, List.getElem_toArray, List.getElem_cons_zero, List.getElem_cons_succ, List.setIfInBounds_toArray, List.set_cons_zero, List.set_cons_succ])
        refine wpAnyH_take (i := 11) (v := undef) rfl (by as_aux_lemma => kernel_rfl) (by as_aux_lemma => kernel_rfl) (by as_aux_lemma => kernel_rfl) (fun _ _ _ h => h) (Or.inr ⟨by kernel_rfl, rfl⟩) hS ?_
        (try simp only [Act.put, List.getElem_toArray, List.getElem_cons_zero, List.getElem_cons_succ, List.setIfInBounds_toArray, List.set_cons_zero, List.set_cons_succ])
        refine wpAnyH_take (i := 12) (v := undef) rfl (by as_aux_lemma => kernel_rfl) (by as_aux_lemma => kernel_rfl) (by as_aux_lemma => kernel_rfl) (fun _ _ _ h => h) (Or.inr ⟨by kernel_rfl, rfl⟩) hS ?_
        (try simp only [Act.put, List.getElem_toArray, List.getElem_cons_zero, List.getElem_cons_succ, List.setIfInBounds_toArray, List.set_cons_zero, List.set_cons_succ])
        refine wpAnyH_take (i := 13) (v := undef) rfl (by as_aux_lemma => kernel_rfl) (by as_aux_lemma => kernel_rfl) (by as_aux_lemma => kernel_rfl) (fun _ _ _ h => h) (Or.inr ⟨by kernel_rfl, rfl⟩) hS ?_
        (try simp only [Act.put, List.getElem_toArray, List.getElem_cons_zero, List.getElem_cons_succ, List.setIfInBounds_toArray, List.set_cons_zero, List.set_cons_succ])
        refine wpAnyH_take (i := 14) (v := (.bool true)) rfl (by as_aux_lemma => kernel_rfl) (by as_aux_lemma => kernel_rfl) (by as_aux_lemma => kernel_rfl) (fun _ _ _ h => h) (Or.inl ⟨by kernel_rfl, ?_⟩) hS ?_
        · intro w hSw; (try dsimp only at hSw); go_simp; all_goals (try omega)
        (try simp only [Act.put, List.getElem_toArray, List.getElem_cons_zero, List.getElem_cons_succ, List.setIfInBounds_toArray, List.set_cons_zero, List.set_cons_succ])
        refine wpAnyH_take (i := 15) (v := (.bool true)) rfl (by as_aux_lemma => kernel_rfl) (by as_aux_lemma => kernel_rfl) (by as_aux_lemma => kernel_rfl) (fun _ _ _ h => h) (Or.inl ⟨by kernel_rfl, ?_⟩) hS ?_
        · intro w hSw; (try dsimp only at hSw); go_simp; all_goals (try omega)
        (try simp only [Act.put, List.getElem_toArray, List.getElem_cons_zero, List.getElem_cons_succ, List.setIfInBounds_toArray, List.set_cons_zero, List.set_cons_succ])
        refine wpAnyH_take (i := 16) (v := (.bool true)) rfl (by as_aux_lemma => kernel_rfl) (by as_aux_lemma => kernel_rfl) (by as_aux_lemma => kernel_rfl) (fun _ _ _ h => h) (Or.inl ⟨by kernel_rfl, ?_⟩) hS ?_
        · intro w hSw; (try dsimp only at hSw); go_simp; all_goals (try omega)
        (try simp only [Act.put, List.getElem_toArray, List.getElem_cons_zero, List.getElem_cons_succ, List.setIfInBounds_toArray, List.set_cons_zero, List.set_cons_succ])
        refine wpAnyH_take (i := 17) (v := (.pointer (some ⟨w5.heap.size, 0, none⟩))) rfl (by as_aux_lemma => kernel_rfl) (by as_aux_lemma => kernel_rfl) (by as_aux_lemma => kernel_rfl) (fun _ _ _ h => h) (Or.inl ⟨by kernel_rfl, ?_⟩) hS ?_
        · intro w hSw; (try dsimp only at hSw); go_simp; all_goals (try omega)
        (try simp only [Act.put, List.getElem_toArray, List.getElem_cons_zero, List.getElem_cons_succ, List.setIfInBounds_toArray, List.set_cons_zero, List.set_cons_succ])
        refine wpAnyH_take (i := 18) (v := (.int .i64 0)) rfl (by as_aux_lemma => kernel_rfl) (by as_aux_lemma => kernel_rfl) (by as_aux_lemma => kernel_rfl) (fun _ _ _ h => h) (Or.inl ⟨by kernel_rfl, ?_⟩) hS ?_
        · intro w hSw; (try dsimp only at hSw); obtain ⟨hSb, hl0, hl1, hl2, hl3, hl4, hl5, hl6, hl7, hl8, hl9, hl10, hl11, hl12, hl13, hl14⟩ := hSw; go_simp; all_goals (try omega)
        (try simp only [Act.put, List.getElem_toArray, List.getElem_cons_zero, List.getElem_cons_succ, List.setIfInBounds_toArray, List.set_cons_zero, List.set_cons_succ])
        refine wpAnyH_take (i := 19) (v := (.bool true)) rfl (by as_aux_lemma => kernel_rfl) (by as_aux_lemma => kernel_rfl) (by as_aux_lemma => kernel_rfl) (fun _ _ _ h => h) (Or.inl ⟨by kernel_rfl, ?_⟩) hS ?_
        · intro w hSw; (try dsimp only at hSw); go_simp; all_goals (try omega)
        (try simp only [Act.put, List.getElem_toArray, List.getElem_cons_zero, List.getElem_cons_succ, List.setIfInBounds_toArray, List.set_cons_zero, List.set_cons_succ])
        refine wpAnyH_take (i := 20) (v := (.bool true)) rfl (by as_aux_lemma => kernel_rfl) (by as_aux_lemma => kernel_rfl) (by as_aux_lemma => kernel_rfl) (fun _ _ _ h => h) (Or.inl ⟨by kernel_rfl, ?_⟩) hS ?_
        · intro w hSw; (try dsimp only at hSw); go_simp; all_goals (try omega)
        (try simp only [Act.put, List.getElem_toArray, List.getElem_cons_zero, List.getElem_cons_succ, List.setIfInBounds_toArray, List.set_cons_zero, List.set_cons_succ])
        refine wpAnyH_take (i := 21) (v := (.bool true)) rfl (by as_aux_lemma => kernel_rfl) (by as_aux_lemma => kernel_rfl) (by as_aux_lemma => kernel_rfl) (fun _ _ _ h => h) (Or.inl ⟨by kernel_rfl, ?_⟩) hS ?_
        · intro w hSw; (try dsimp only at hSw); go_simp; all_goals (try omega)
        (try simp only [Act.put, List.getElem_toArray, List.getElem_cons_zero, List.getElem_cons_succ, List.setIfInBounds_toArray, List.set_cons_zero, List.set_cons_succ])
        refine wpAnyH_take (i := 22) (v := (.pointer (some ⟨w4.heap.size, 1, none⟩))) rfl (by as_aux_lemma => kernel_rfl) (by as_aux_lemma => kernel_rfl) (by as_aux_lemma => kernel_rfl) (fun _ _ _ h => h) (Or.inl ⟨by kernel_rfl, ?_⟩) hS ?_
        · intro w hSw; (try dsimp only at hSw); go_simp; all_goals (try omega)
        (try simp only [Act.put, List.getElem_toArray, List.getElem_cons_zero, List.getElem_cons_succ, List.setIfInBounds_toArray, List.set_cons_zero, List.set_cons_succ])
        refine wpAnyH_take (i := 23) (v := (.agg #[.int .i64 0, .int .i64 0])) rfl (by as_aux_lemma => kernel_rfl) (by as_aux_lemma => kernel_rfl) (by as_aux_lemma => kernel_rfl) (fun _ _ _ h => h) (Or.inl ⟨by kernel_rfl, ?_⟩) hS ?_
        · intro w hSw; (try dsimp only at hSw); obtain ⟨hSb, hl0, hl1, hl2, hl3, hl4, hl5, hl6, hl7, hl8, hl9, hl10, hl11, hl12, hl13, hl14⟩ := hSw; go_simp; all_goals (try omega)
        (try simp only [Act.put, List.getElem_toArray, List.getElem_cons_zero, List.getElem_cons_succ, List.setIfInBounds_toArray, List.set_cons_zero, List.set_cons_succ])
        refine wpAnyH_take (i := 24) (v := (.agg #[.int .i64 0, .int .i64 0])) rfl (by as_aux_lemma => kernel_rfl) (by as_aux_lemma => kernel_rfl) (by as_aux_lemma => kernel_rfl) (fun _ _ _ h => h) (Or.inl ⟨by kernel_rfl, ?_⟩) hS ?_
        · intro w hSw; (try dsimp only at hSw); go_simp; all_goals (try omega)
        (try simp only [Act.put, List.getElem_toArray, List.getElem_cons_zero, List.getElem_cons_succ, List.setIfInBounds_toArray, List.set_cons_zero, List.set_cons_succ])
        refine wpAnyH_take (i := 25) (v := (.bool true)) rfl (by as_aux_lemma => kernel_rfl) (by as_aux_lemma => kernel_rfl) (by as_aux_lemma => kernel_rfl) (fun _ _ _ h => h) (Or.inl ⟨by kernel_rfl, ?_⟩) hS ?_
        · intro w hSw; (try dsimp only at hSw); go_simp; all_goals (try omega)
        (try simp only [Act.put, List.getElem_toArray, List.getElem_cons_zero, List.getElem_cons_succ, List.setIfInBounds_toArray, List.set_cons_zero, List.set_cons_succ])
        refine wpAnyH_take (i := 26) (v := (.bool true)) rfl (by as_aux_lemma => kernel_rfl) (by as_aux_lemma => kernel_rfl) (by as_aux_lemma => kernel_rfl) (fun _ _ _ h => h) (Or.inl ⟨by kernel_rfl, ?_⟩) hS ?_
        · intro w hSw; (try dsimp only at hSw); go_simp; all_goals (try omega)
        (try simp only [Act.put, List.getElem_toArray, List.getElem_cons_zero, List.getElem_cons_succ, List.setIfInBounds_toArray, List.set_cons_zero, List.set_cons_succ])
        refine wpAnyH_take (i := 27) (v := (.bool true)) rfl (by as_aux_lemma => kernel_rfl) (by as_aux_lemma => kernel_rfl) (by as_aux_lemma => kernel_rfl) (fun _ _ _ h => h) (Or.inl ⟨by kernel_rfl, ?_⟩) hS ?_
        · intro w hSw; (try dsimp only at hSw); go_simp; all_goals (try omega)
        (try simp only [Act.put, List.getElem_toArray, List.getElem_cons_zero, List.getElem_cons_succ, List.setIfInBounds_toArray, List.set_cons_zero, List.set_cons_succ])
        refine wpAnyH_take (i := 28) (v := (.agg #[.slice ay ys.length ky])) rfl (by as_aux_lemma => kernel_rfl) (by as_aux_lemma => kernel_rfl) (by as_aux_lemma => kernel_rfl) (fun _ _ _ h => h) (Or.inl ⟨by kernel_rfl, ?_⟩) hS ?_
        · intro w hSw; (try dsimp only at hSw); obtain ⟨hSb, hl0, hl1, hl2, hl3, hl4, hl5, hl6, hl7, hl8, hl9, hl10, hl11, hl12, hl13, hl14⟩ := hSw; go_simp; all_goals (try omega)
        (try simp only [Act.put, List.getElem_toArray, List.getElem_cons_zero, List.getElem_cons_succ, List.setIfInBounds_toArray, List.set_cons_zero, List.set_cons_succ])
        refine wpAnyH_take (i := 29) (v := (.agg #[.int .i64 W, .bool Q, .int .i64 S])) rfl (by as_aux_lemma => kernel_rfl) (by as_aux_lemma => kernel_rfl) (by as_aux_lemma => kernel_rfl) (fun _ _ _ h => h) (Or.inl ⟨by kernel_rfl, ?_⟩) hS ?_
        · intro w hSw; (try dsimp only at hSw); obtain ⟨hSb, hl0, hl1, hl2, hl3, hl4, hl5, hl6, hl7, hl8, hl9, hl10, hl11, hl12, hl13, hl14⟩ := hSw; go_simp; all_goals (try omega)
        (try simp only [Act.put, List.getElem_toArray, List.getElem_cons_zero, List.getElem_cons_succ, List.setIfInBounds_toArray, List.set_cons_zero, List.set_cons_succ])
        refine wpAnyH_take (i := 30) (v := (.pointer (some ⟨w3.heap.size, 1, none⟩))) rfl (by as_aux_lemma => kernel_rfl) (by as_aux_lemma => kernel_rfl) (by as_aux_lemma => kernel_rfl) (fun _ _ _ h => h) (Or.inl ⟨by kernel_rfl, ?_⟩) hS ?_
        · intro w hSw; (try dsimp only at hSw); go_simp; all_goals (try omega)
        (try simp only [Act.put, List.getElem_toArray, List.getElem_cons_zero, List.getElem_cons_succ, List.setIfInBounds_toArray, List.set_cons_zero, List.set_cons_succ])
        refine wpAnyH_take (i := 31) (v := (.agg #[.int .i64 E1, .int .i64 E2])) rfl (by as_aux_lemma => kernel_rfl) (by as_aux_lemma => kernel_rfl) (by as_aux_lemma => kernel_rfl) (fun _ _ _ h => h) (Or.inl ⟨by kernel_rfl, ?_⟩) hS ?_
        · intro w hSw; (try dsimp only at hSw); obtain ⟨hSb, hl0, hl1, hl2, hl3, hl4, hl5, hl6, hl7, hl8, hl9, hl10, hl11, hl12, hl13, hl14⟩ := hSw; go_simp; all_goals (try omega)
        (try simp only [Act.put, List.getElem_toArray, List.getElem_cons_zero, List.getElem_cons_succ, List.setIfInBounds_toArray, List.set_cons_zero, List.set_cons_succ])
        refine wpAnyH_ready (rs := [32]) (by as_aux_lemma => kernel_rfl) (by simp) ?_
        refine AllReadyH.cons rfl (fun K hK => ?_) AllReadyH.nil
        go_simp
        refine Calls.mono (HFE.out _ ry.read) ?_
        rintro e w32 ⟨rfl, hc⟩
        have s32 : w31.heap.size ≤ w32.heap.size := hc.size
        have bq := hc
        replace cF0 := cell_later bq cF0
        replace zF := Nat.lt_of_lt_of_le zF bq.size
        replace cL0 := cell_later bq cL0
        replace cL1 := cell_later bq cL1
        replace cL2 := cell_later bq cL2
        replace zL := Nat.lt_of_lt_of_le zL bq.size
        replace cP0 := cell_later bq cP0
        replace cP1 := cell_later bq cP1
        replace zP := Nat.lt_of_lt_of_le zP bq.size
        replace cA0 := cell_later bq cA0
        replace cA1 := cell_later bq cA1
        replace cA2 := cell_later bq cA2
        replace zA := Nat.lt_of_lt_of_le zA bq.size
        replace cE0 := cell_later bq cE0
        replace cE1 := cell_later bq cE1
        replace cE2 := cell_later bq cE2
        replace zE := Nat.lt_of_lt_of_le zE bq.size
        replace cZ0 := cell_later bq cZ0
        replace cZ1 := cell_later bq cZ1
        replace cZ2 := cell_later bq cZ2
        replace zZ := Nat.lt_of_lt_of_le zZ bq.size
        replace cG0 := cell_later bq cG0
        replace cG1 := cell_later bq cG1
        replace cG2 := cell_later bq cG2
        replace zG := Nat.lt_of_lt_of_le zG bq.size
        replace cO0 := cell_later bq cO0
        replace cO1 := cell_later bq cO1
        replace cO2 := cell_later bq cO2
        replace zO := Nat.lt_of_lt_of_le zO bq.size
        replace cT0 := cell_later bq cT0
        replace cT1 := cell_later bq cT1
        replace zT := Nat.lt_of_lt_of_le zT bq.size
        replace ry := ry.below bq
        replace hb := hb.trans (bq.mono hb.size)
        clear hc bq
        refine hK.out _ _ (⟨hb, cA1, cA2, cE1, cE2, cF0, cG0, cL0, cL1, cL2, cP0, cP1, cT0, cT1, cZ1, cZ2⟩) (fun hS => ?_)
        clear hK K
        (try simp only [Act.put, List.getElem_toArray, List.getElem_cons_zero, List.getElem_cons_succ, List.setIfInBounds_toArray, List.set_cons_zero, List.set_cons_succ])
        refine wpAnyH_take (i := 33) (v := (.bool true)) rfl (by as_aux_lemma => kernel_rfl) (by as_aux_lemma => kernel_rfl) (by as_aux_lemma => kernel_rfl) (fun _ _ _ h => h) (Or.inl ⟨by kernel_rfl, ?_⟩) hS ?_
        · intro w hSw; (try dsimp only at hSw); go_simp; all_goals (try omega)
        (try simp only [Act.put, List.getElem_toArray, List.getElem_cons_zero, List.getElem_cons_succ, List.setIfInBounds_toArray, List.set_cons_zero, List.set_cons_succ])
        refine wpAnyH_take (i := 34) (v := (.bool true)) rfl (by as_aux_lemma => kernel_rfl) (by as_aux_lemma => kernel_rfl) (by as_aux_lemma => kernel_rfl) (fun _ _ _ h => h) (Or.inl ⟨by kernel_rfl, ?_⟩) hS ?_
        · intro w hSw; (try dsimp only at hSw); go_simp; all_goals (try omega)
        (try simp only [Act.put, List.getElem_toArray, List.getElem_cons_zero, List.getElem_cons_succ, List.setIfInBounds_toArray, List.set_cons_zero, List.set_cons_succ])
        refine wpAnyH_take (i := 35) (v := (.bool true)) rfl (by as_aux_lemma => kernel_rfl) (by as_aux_lemma => kernel_rfl) (by as_aux_lemma => kernel_rfl) (fun _ _ _ h => h) (Or.inl ⟨by kernel_rfl, ?_⟩) hS ?_
        · intro w hSw; (try dsimp only at hSw); go_simp; all_goals (try omega)
        (try simp only [Act.put, List.getElem_toArray, List.getElem_cons_zero, List.getElem_cons_succ, List.setIfInBounds_toArray, List.set_cons_zero, List.set_cons_succ])
        refine wpAnyH_take (i := 36) (v := (.pointer (some ⟨w2.heap.size, 1, none⟩))) rfl (by as_aux_lemma => kernel_rfl) (by as_aux_lemma => kernel_rfl) (by as_aux_lemma => kernel_rfl) (fun _ _ _ h => h) (Or.inl ⟨by kernel_rfl, ?_⟩) hS ?_
        · intro w hSw; (try dsimp only at hSw); go_simp; all_goals (try omega)
        (try simp only [Act.put, List.getElem_toArray, List.getElem_cons_zero, List.getElem_cons_succ, List.setIfInBounds_toArray, List.set_cons_zero, List.set_cons_succ])
        refine wpAnyH_take (i := 37) (v := (.agg #[.int .i64 A1, .int .i64 A2])) rfl (by as_aux_lemma => kernel_rfl) (by as_aux_lemma => kernel_rfl) (by as_aux_lemma => kernel_rfl) (fun _ _ _ h => h) (Or.inl ⟨by kernel_rfl, ?_⟩) hS ?_
        · intro w hSw; (try dsimp only at hSw); obtain ⟨hSb, hl0, hl1, hl2, hl3, hl4, hl5, hl6, hl7, hl8, hl9, hl10, hl11, hl12, hl13, hl14⟩ := hSw; go_simp; all_goals (try omega)
        (try simp only [Act.put, List.getElem_toArray, List.getElem_cons_zero, List.getElem_cons_succ, List.setIfInBounds_toArray, List.set_cons_zero, List.set_cons_succ])
        refine wpAnyH_take (i := 38) (v := (.agg #[.slice ay ys.length ky])) rfl (by as_aux_lemma => kernel_rfl) (by as_aux_lemma => kernel_rfl) (by as_aux_lemma => kernel_rfl) (fun _ _ _ h => h) (Or.inl ⟨by kernel_rfl, ?_⟩) hS ?_
        · intro w hSw; (try dsimp only at hSw); obtain ⟨hSb, hl0, hl1, hl2, hl3, hl4, hl5, hl6, hl7, hl8, hl9, hl10, hl11, hl12, hl13, hl14⟩ := hSw; go_simp; all_goals (try omega)
        (try simp only [Act.put, List.getElem_toArray, List.getElem_cons_zero, List.getElem_cons_succ, List.setIfInBounds_toArray, List.set_cons_zero, List.set_cons_succ])
        refine wpAnyH_take (i := 39) (v := (.agg #[.int .i64 W, .bool Q, .int .i64 S])) rfl (by as_aux_lemma => kernel_rfl) (by as_aux_lemma => kernel_rfl) (by as_aux_lemma => kernel_rfl) (fun _ _ _ h => h) (Or.inl ⟨by kernel_rfl, ?_⟩) hS ?_
        · intro w hSw; (try dsimp only at hSw); obtain ⟨hSb, hl0, hl1, hl2, hl3, hl4, hl5, hl6, hl7, hl8, hl9, hl10, hl11, hl12, hl13, hl14⟩ := hSw; go_simp; all_goals (try omega)
        (try simp only [Act.put, List.getElem_toArray, List.getElem_cons_zero, List.getElem_cons_succ, List.setIfInBounds_toArray, List.set_cons_zero, List.set_cons_succ])
        refine wpAnyH_take (i := 40) (v := (.agg #[.int .i64 L, .int .i64 R])) rfl (by as_aux_lemma => kernel_rfl) (by as_aux_lemma => kernel_rfl) (by as_aux_lemma => kernel_rfl) (fun _ _ _ h => h) (Or.inl ⟨by kernel_rfl, ?_⟩) hS ?_
        · intro w hSw; (try dsimp only at hSw); obtain ⟨hSb, hl0, hl1, hl2, hl3, hl4, hl5, hl6, hl7, hl8, hl9, hl10, hl11, hl12, hl13, hl14⟩ := hSw; go_simp; all_goals (try omega)
        (try simp only [Act.put, List.getElem_toArray, List.getElem_cons_zero, List.getElem_cons_succ, List.setIfInBounds_toArray, List.set_cons_zero, List.set_cons_succ])
        refine wpAnyH_take (i := 41) (v := (.int .i64 M)) rfl (by as_aux_lemma => kernel_rfl) (by as_aux_lemma => kernel_rfl) (by as_aux_lemma => kernel_rfl) (fun _ _ _ h => h) (Or.inl ⟨by kernel_rfl, ?_⟩) hS ?_
        · intro w hSw; (try dsimp only at hSw); go_simp; all_goals (try omega)
        (try simp only [Act.put, List.getElem_toArray, List.getElem_cons_zero, List.getElem_cons_succ, List.setIfInBounds_toArray, List.set_cons_zero, List.set_cons_succ])
        refine wpAnyH_ready (rs := [42]) (by as_aux_lemma => kernel_rfl) (by simp) ?_
        refine AllReadyH.cons rfl (fun K hK => ?_) AllReadyH.nil
        go_simp
        refine Calls.mono (HSM.out _ ry.read) ?_
        rintro e w33 ⟨rfl, hc⟩
        have s33 : w32.heap.size ≤ w33.heap.size := hc.size
        have bq := hc
        replace cF0 := cell_later bq cF0
        replace zF := Nat.lt_of_lt_of_le zF bq.size
        replace cL0 := cell_later bq cL0
        replace cL1 := cell_later bq cL1
        replace cL2 := cell_later bq cL2
        replace zL := Nat.lt_of_lt_of_le zL bq.size
        replace cP0 := cell_later bq cP0
        replace cP1 := cell_later bq cP1
        replace zP := Nat.lt_of_lt_of_le zP bq.size
        replace cA0 := cell_later bq cA0
        replace cA1 := cell_later bq cA1
        replace cA2 := cell_later bq cA2
        replace zA := Nat.lt_of_lt_of_le zA bq.size
        replace cE0 := cell_later bq cE0
        replace cE1 := cell_later bq cE1
        replace cE2 := cell_later bq cE2
        replace zE := Nat.lt_of_lt_of_le zE bq.size
        replace cZ0 := cell_later bq cZ0
        replace cZ1 := cell_later bq cZ1
        replace cZ2 := cell_later bq cZ2
        replace zZ := Nat.lt_of_lt_of_le zZ bq.size
        replace cG0 := cell_later bq cG0
        replace cG1 := cell_later bq cG1
        replace cG2 := cell_later bq cG2
        replace zG := Nat.lt_of_lt_of_le zG bq.size
        replace cO0 := cell_later bq cO0
        replace cO1 := cell_later bq cO1
        replace cO2 := cell_later bq cO2
        replace zO := Nat.lt_of_lt_of_le zO bq.size
        replace cT0 := cell_later bq cT0
        replace cT1 := cell_later bq cT1
        replace zT := Nat.lt_of_lt_of_le zT bq.size
        replace ry := ry.below bq
        replace hb := hb.trans (bq.mono hb.size)
        clear hc bq
        refine hK.out _ _ (⟨hb, cA1, cA2, cE1, cE2, cF0, cG0, cL0, cL1, cL2, cP0, cP1, cT0, cT1, cZ1, cZ2⟩) (fun hS => ?_)
        clear hK K
        (try simp only [Act.put, List.getElem_toArray, List.getElem_cons_zero, List.getElem_cons_succ, List.setIfInBounds_toArray, List.set_cons_zero, List.set_cons_succ])
        refine wpAnyH_take (i := 43) (v := (.agg #[.int .i64 A1, .int .i64 A2])) rfl (by as_aux_lemma => kernel_rfl) (by as_aux_lemma => kernel_rfl) (by as_aux_lemma => kernel_rfl) (fun _ _ _ h => h) (Or.inl ⟨by kernel_rfl, ?_⟩) hS ?_
        · intro w hSw; (try dsimp only at hSw); go_simp; all_goals (try omega)
        (try simp only [Act.put, List.getElem_toArray, List.getElem_cons_zero, List.getElem_cons_succ, List.setIfInBounds_toArray, List.set_cons_zero, List.set_cons_succ])
        refine wpAnyH_take (i := 44) (v := (.bool true)) rfl (by as_aux_lemma => kernel_rfl) (by as_aux_lemma => kernel_rfl) (by as_aux_lemma => kernel_rfl) (fun _ _ _ h => h) (Or.inl ⟨by kernel_rfl, ?_⟩) hS ?_
        · intro w hSw; (try dsimp only at hSw); go_simp; all_goals (try omega)
        (try simp only [Act.put, List.getElem_toArray, List.getElem_cons_zero, List.getElem_cons_succ, List.setIfInBounds_toArray, List.set_cons_zero, List.set_cons_succ])
        refine wpAnyH_take (i := 45) (v := (.bool true)) rfl (by as_aux_lemma => kernel_rfl) (by as_aux_lemma => kernel_rfl) (by as_aux_lemma => kernel_rfl) (fun _ _ _ h => h) (Or.inl ⟨by kernel_rfl, ?_⟩) hS ?_
        · intro w hSw; (try dsimp only at hSw); go_simp; all_goals (try omega)
        (try simp only [Act.put, List.getElem_toArray, List.getElem_cons_zero, List.getElem_cons_succ, List.setIfInBounds_toArray, List.set_cons_zero, List.set_cons_succ])
        refine wpAnyH_take (i := 46) (v := (.bool true)) rfl (by as_aux_lemma => kernel_rfl) (by as_aux_lemma => kernel_rfl) (by as_aux_lemma => kernel_rfl) (fun _ _ _ h => h) (Or.inl ⟨by kernel_rfl, ?_⟩) hS ?_
        · intro w hSw; (try dsimp only at hSw); go_simp; all_goals (try omega)
        (try simp only [Act.put, List.getElem_toArray, List.getElem_cons_zero, List.getElem_cons_succ, List.setIfInBounds_toArray, List.set_cons_zero, List.set_cons_succ])
        refine wpAnyH_take (i := 47) (v := (.pointer (some ⟨w28.heap.size, 0, none⟩))) rfl (by as_aux_lemma => kernel_rfl) (by as_aux_lemma => kernel_rfl) (by as_aux_lemma => kernel_rfl) (fun _ _ _ h => h) (Or.inl ⟨by kernel_rfl, ?_⟩) hS ?_
        · intro w hSw; (try dsimp only at hSw); go_simp; all_goals (try omega)
        (try simp only [Act.put, List.getElem_toArray, List.getElem_cons_zero, List.getElem_cons_succ, List.setIfInBounds_toArray, List.set_cons_zero, List.set_cons_succ])
        refine wpAnyH_take (i := 48) (v := (.int .i64 c)) rfl (by as_aux_lemma => kernel_rfl) (by as_aux_lemma => kernel_rfl) (by as_aux_lemma => kernel_rfl) (fun _ _ _ h => h) (Or.inl ⟨by kernel_rfl, ?_⟩) hS ?_
        · intro w hSw; (try dsimp only at hSw); obtain ⟨hSb, hl0, hl1, hl2, hl3, hl4, hl5, hl6, hl7, hl8, hl9, hl10, hl11, hl12, hl13, hl14⟩ := hSw; go_simp; all_goals (try omega)
        (try simp only [Act.put, List.getElem_toArray, List.getElem_cons_zero, List.getElem_cons_succ, List.setIfInBounds_toArray, List.set_cons_zero, List.set_cons_succ])
        refine wpAnyH_take (i := 49) (v := (.agg #[.int .i64 L, .int .i64 R])) rfl (by as_aux_lemma => kernel_rfl) (by as_aux_lemma => kernel_rfl) (by as_aux_lemma => kernel_rfl) (fun _ _ _ h => h) (Or.inl ⟨by kernel_rfl, ?_⟩) hS ?_
        · intro w hSw; (try dsimp only at hSw); obtain ⟨hSb, hl0, hl1, hl2, hl3, hl4, hl5, hl6, hl7, hl8, hl9, hl10, hl11, hl12, hl13, hl14⟩ := hSw; go_simp; all_goals (try omega)
        (try simp only [Act.put, List.getElem_toArray, List.getElem_cons_zero, List.getElem_cons_succ, List.setIfInBounds_toArray, List.set_cons_zero, List.set_cons_succ])
        refine wpAnyH_ready (rs := [50]) (by as_aux_lemma => kernel_rfl) (by simp) ?_
        refine AllReadyH.cons rfl (fun K hK => ?_) AllReadyH.nil
        go_simp
        refine Calls.mono (HSS.out _) ?_
        rintro e w34 ⟨rfl, hc⟩
        have s34 : w33.heap.size ≤ w34.heap.size := hc.size
        have bq := hc
        replace cF0 := cell_later bq cF0
        replace zF := Nat.lt_of_lt_of_le zF bq.size
        replace cL0 := cell_later bq cL0
        replace cL1 := cell_later bq cL1
        replace cL2 := cell_later bq cL2
        replace zL := Nat.lt_of_lt_of_le zL bq.size
        replace cP0 := cell_later bq cP0
        replace cP1 := cell_later bq cP1
        replace zP := Nat.lt_of_lt_of_le zP bq.size
        replace cA0 := cell_later bq cA0
        replace cA1 := cell_later bq cA1
        replace cA2 := cell_later bq cA2
        replace zA := Nat.lt_of_lt_of_le zA bq.size
        replace cE0 := cell_later bq cE0
        replace cE1 := cell_later bq cE1
        replace cE2 := cell_later bq cE2
        replace zE := Nat.lt_of_lt_of_le zE bq.size
        replace cZ0 := cell_later bq cZ0
        replace cZ1 := cell_later bq cZ1
        replace cZ2 := cell_later bq cZ2
        replace zZ := Nat.lt_of_lt_of_le zZ bq.size
        replace cG0 := cell_later bq cG0
        replace cG1 := cell_later bq cG1
        replace cG2 := cell_later bq cG2
        replace zG := Nat.lt_of_lt_of_le zG bq.size
        replace cO0 := cell_later bq cO0
        replace cO1 := cell_later bq cO1
        replace cO2 := cell_later bq cO2
        replace zO := Nat.lt_of_lt_of_le zO bq.size
        replace cT0 := cell_later bq cT0
        replace cT1 := cell_later bq cT1
        replace zT := Nat.lt_of_lt_of_le zT bq.size
        replace ry := ry.below bq
        replace hb := hb.trans (bq.mono hb.size)
        clear hc bq
        refine hK.out _ _ (⟨hb, cA1, cA2, cE1, cE2, cF0, cG0, cL0, cL1, cL2, cP0, cP1, cT0, cT1, cZ1, cZ2⟩) (fun hS => ?_)
        clear hK K
        (try simp only [Act.put, List.getElem_toArray, List.getElem_cons_zero, List.getElem_cons_succ, List.setIfInBounds_toArray, List.set_cons_zero, List.set_cons_succ])
        refine wpAnyH_take (i := 51) (v := (.int .i64 c)) rfl (by as_aux_lemma => kernel_rfl) (by as_aux_lemma => kernel_rfl) (by as_aux_lemma => kernel_rfl) (fun _ _ _ h => h) (Or.inl ⟨by kernel_rfl, ?_⟩) hS ?_
        · intro w hSw; (try dsimp only at hSw); go_simp; all_goals (try omega)
        (try simp only [Act.put, List.getElem_toArray, List.getElem_cons_zero, List.getElem_cons_succ, List.setIfInBounds_toArray, List.set_cons_zero, List.set_cons_succ])
        refine wpAnyH_take (i := 52) (v := (.bool true)) rfl (by as_aux_lemma => kernel_rfl) (by as_aux_lemma => kernel_rfl) (by as_aux_lemma => kernel_rfl) (fun _ _ _ h => h) (Or.inl ⟨by kernel_rfl, ?_⟩) hS ?_
        · intro w hSw; (try dsimp only at hSw); go_simp; all_goals (try omega)
        (try simp only [Act.put, List.getElem_toArray, List.getElem_cons_zero, List.getElem_cons_succ, List.setIfInBounds_toArray, List.set_cons_zero, List.set_cons_succ])
        refine wpAnyH_take (i := 53) (v := (.bool true)) rfl (by as_aux_lemma => kernel_rfl) (by as_aux_lemma => kernel_rfl) (by as_aux_lemma => kernel_rfl) (fun _ _ _ h => h) (Or.inl ⟨by kernel_rfl, ?_⟩) hS ?_
        · intro w hSw; (try dsimp only at hSw); go_simp; all_goals (try omega)
        (try simp only [Act.put, List.getElem_toArray, List.getElem_cons_zero, List.getElem_cons_succ, List.setIfInBounds_toArray, List.set_cons_zero, List.set_cons_succ])
        refine wpAnyH_take (i := 54) (v := (.bool true)) rfl (by as_aux_lemma => kernel_rfl) (by as_aux_lemma => kernel_rfl) (by as_aux_lemma => kernel_rfl) (fun _ _ _ h => h) (Or.inl ⟨by kernel_rfl, ?_⟩) hS ?_
        · intro w hSw; (try dsimp only at hSw); go_simp; all_goals (try omega)
        (try simp only [Act.put, List.getElem_toArray, List.getElem_cons_zero, List.getElem_cons_succ, List.setIfInBounds_toArray, List.set_cons_zero, List.set_cons_succ])
        refine wpAnyH_take (i := 55) (v := (.pointer (some ⟨w28.heap.size, 1, none⟩))) rfl (by as_aux_lemma => kernel_rfl) (by as_aux_lemma => kernel_rfl) (by as_aux_lemma => kernel_rfl) (fun _ _ _ h => h) (Or.inl ⟨by kernel_rfl, ?_⟩) hS ?_
        · intro w hSw; (try dsimp only at hSw); go_simp; all_goals (try omega)
        (try simp only [Act.put, List.getElem_toArray, List.getElem_cons_zero, List.getElem_cons_succ, List.setIfInBounds_toArray, List.set_cons_zero, List.set_cons_succ])
        refine wpAnyH_take (i := 56) (v := (.string T)) rfl (by as_aux_lemma => kernel_rfl) (by as_aux_lemma => kernel_rfl) (by as_aux_lemma => kernel_rfl) (fun _ _ _ h => h) (Or.inl ⟨by kernel_rfl, ?_⟩) hS ?_
        · intro w hSw; (try dsimp only at hSw); obtain ⟨hSb, hl0, hl1, hl2, hl3, hl4, hl5, hl6, hl7, hl8, hl9, hl10, hl11, hl12, hl13, hl14⟩ := hSw; go_simp; all_goals (try omega)
        (try simp only [Act.put, List.getElem_toArray, List.getElem_cons_zero, List.getElem_cons_succ, List.setIfInBounds_toArray, List.set_cons_zero, List.set_cons_succ])
        refine wpAnyH_take (i := 57) (v := (.agg #[.int .i64 L, .int .i64 R])) rfl (by as_aux_lemma => kernel_rfl) (by as_aux_lemma => kernel_rfl) (by as_aux_lemma => kernel_rfl) (fun _ _ _ h => h) (Or.inl ⟨by kernel_rfl, ?_⟩) hS ?_
        · intro w hSw; (try dsimp only at hSw); obtain ⟨hSb, hl0, hl1, hl2, hl3, hl4, hl5, hl6, hl7, hl8, hl9, hl10, hl11, hl12, hl13, hl14⟩ := hSw; go_simp; all_goals (try omega)
        (try simp only [Act.put, List.getElem_toArray, List.getElem_cons_zero, List.getElem_cons_succ, List.setIfInBounds_toArray, List.set_cons_zero, List.set_cons_succ])
        refine wpAnyH_ready (rs := [58]) (by as_aux_lemma => kernel_rfl) (by simp) ?_
        refine AllReadyH.cons rfl (fun K hK => ?_) AllReadyH.nil
        go_simp
        refine Calls.mono (HSS.out _) ?_
        rintro e w35 ⟨rfl, hc⟩
        have s35 : w34.heap.size ≤ w35.heap.size := hc.size
        have bq := hc
        replace cF0 := cell_later bq cF0
        replace zF := Nat.lt_of_lt_of_le zF bq.size
        replace cL0 := cell_later bq cL0
        replace cL1 := cell_later bq cL1
        replace cL2 := cell_later bq cL2
        replace zL := Nat.lt_of_lt_of_le zL bq.size
        replace cP0 := cell_later bq cP0
        replace cP1 := cell_later bq cP1
        replace zP := Nat.lt_of_lt_of_le zP bq.size
        replace cA0 := cell_later bq cA0
        replace cA1 := cell_later bq cA1
        replace cA2 := cell_later bq cA2
        replace zA := Nat.lt_of_lt_of_le zA bq.size
        replace cE0 := cell_later bq cE0
        replace cE1 := cell_later bq cE1
        replace cE2 := cell_later bq cE2
        replace zE := Nat.lt_of_lt_of_le zE bq.size
        replace cZ0 := cell_later bq cZ0
        replace cZ1 := cell_later bq cZ1
        replace cZ2 := cell_later bq cZ2
        replace zZ := Nat.lt_of_lt_of_le zZ bq.size
        replace cG0 := cell_later bq cG0
        replace cG1 := cell_later bq cG1
        replace cG2 := cell_later bq cG2
        replace zG := Nat.lt_of_lt_of_le zG bq.size
        replace cO0 := cell_later bq cO0
        replace cO1 := cell_later bq cO1
        replace cO2 := cell_later bq cO2
        replace zO := Nat.lt_of_lt_of_le zO bq.size
        replace cT0 := cell_later bq cT0
        replace cT1 := cell_later bq cT1
        replace zT := Nat.lt_of_lt_of_le zT bq.size
        replace ry := ry.below bq
        replace hb := hb.trans (bq.mono hb.size)
        clear hc bq
        refine hK.out _ _ (⟨hb, cA1, cA2, cE1, cE2, cF0, cG0, cL0, cL1, cL2, cP0, cP1, cT0, cT1, cZ1, cZ2⟩) (fun hS => ?_)
        clear hK K
        (try simp only [Act.put, List.getElem_toArray, List.getElem_cons_zero, List.getElem_cons_succ, List.setIfInBounds_toArray, List.set_cons_zero, List.set_cons_succ])
        refine wpAnyH_take (i := 59) (v := (.string T)) rfl (by as_aux_lemma => kernel_rfl) (by as_aux_lemma => kernel_rfl) (by as_aux_lemma => kernel_rfl) (fun _ _ _ h => h) (Or.inl ⟨by kernel_rfl, ?_⟩) hS ?_
        · intro w hSw; (try dsimp only at hSw); go_simp; all_goals (try omega)
        (try simp only [Act.put, List.getElem_toArray, List.getElem_cons_zero, List.getElem_cons_succ, List.setIfInBounds_toArray, List.set_cons_zero, List.set_cons_succ])
        refine wpAnyH_take (i := 60) (v := (.bool true)) rfl (by as_aux_lemma => kernel_rfl) (by as_aux_lemma => kernel_rfl) (by as_aux_lemma => kernel_rfl) (fun _ _ _ h => h) (Or.inl ⟨by kernel_rfl, ?_⟩) hS ?_
        · intro w hSw; (try dsimp only at hSw); go_simp; all_goals (try omega)
        (try simp only [Act.put, List.getElem_toArray, List.getElem_cons_zero, List.getElem_cons_succ, List.setIfInBounds_toArray, List.set_cons_zero, List.set_cons_succ])
        refine wpAnyH_take (i := 61) (v := (.bool true)) rfl (by as_aux_lemma => kernel_rfl) (by as_aux_lemma => kernel_rfl) (by as_aux_lemma => kernel_rfl) (fun _ _ _ h => h) (Or.inl ⟨by kernel_rfl, ?_⟩) hS ?_
        · intro w hSw; (try dsimp only at hSw); go_simp; all_goals (try omega)
        (try simp only [Act.put, List.getElem_toArray, List.getElem_cons_zero, List.getElem_cons_succ, List.setIfInBounds_toArray, List.set_cons_zero, List.set_cons_succ])
        refine wpAnyH_take (i := 62) (v := (.bool true)) rfl (by as_aux_lemma => kernel_rfl) (by as_aux_lemma => kernel_rfl) (by as_aux_lemma => kernel_rfl) (fun _ _ _ h => h) (Or.inl ⟨by kernel_rfl, ?_⟩) hS ?_
        · intro w hSw; (try dsimp only at hSw); go_simp; all_goals (try omega)
        (try simp only [Act.put, List.getElem_toArray, List.getElem_cons_zero, List.getElem_cons_succ, List.setIfInBounds_toArray, List.set_cons_zero, List.set_cons_succ])
        refine wpAnyH_take (i := 63) (v := (.pointer (some ⟨w28.heap.size, 0, none⟩))) rfl (by as_aux_lemma => kernel_rfl) (by as_aux_lemma => kernel_rfl) (by as_aux_lemma => kernel_rfl) (fun _ _ _ h => h) (Or.inl ⟨by kernel_rfl, ?_⟩) hS ?_
        · intro w hSw; (try dsimp only at hSw); go_simp; all_goals (try omega)
        (try simp only [Act.put, List.getElem_toArray, List.getElem_cons_zero, List.getElem_cons_succ, List.setIfInBounds_toArray, List.set_cons_zero, List.set_cons_succ])
        refine wpAnyH_take (i := 64) (v := (.int .i64 c)) rfl (by as_aux_lemma => kernel_rfl) (by as_aux_lemma => kernel_rfl) (by as_aux_lemma => kernel_rfl) (fun _ _ _ h => h) (Or.inl ⟨by kernel_rfl, ?_⟩) hS ?_
        · intro w hSw; (try dsimp only at hSw); obtain ⟨hSb, hl0, hl1, hl2, hl3, hl4, hl5, hl6, hl7, hl8, hl9, hl10, hl11, hl12, hl13, hl14⟩ := hSw; go_simp; all_goals (try omega)
        (try simp only [Act.put, List.getElem_toArray, List.getElem_cons_zero, List.getElem_cons_succ, List.setIfInBounds_toArray, List.set_cons_zero, List.set_cons_succ])
        refine wpAnyH_take (i := 65) (v := (.bool cb)) rfl (by as_aux_lemma => kernel_rfl) (by as_aux_lemma => kernel_rfl) (by as_aux_lemma => kernel_rfl) (fun _ _ _ h => h) (Or.inl ⟨by kernel_rfl, ?_⟩) hS ?_
        · intro w hSw; (try dsimp only at hSw); go_simp; all_goals (try omega)
        (try simp only [Act.put, List.getElem_toArray, List.getElem_cons_zero, List.getElem_cons_succ, List.setIfInBounds_toArray, List.set_cons_zero, List.set_cons_succ])
        refine wpAnyH_take (i := 66) (v := (.bool cb)) rfl (by as_aux_lemma => kernel_rfl) (by as_aux_lemma => kernel_rfl) (by as_aux_lemma => kernel_rfl) (fun _ _ _ h => h) (Or.inl ⟨by kernel_rfl, ?_⟩) hS ?_
        · intro w hSw; (try dsimp only at hSw); go_simp; all_goals (try omega)
        (try simp only [Act.put, List.getElem_toArray, List.getElem_cons_zero, List.getElem_cons_succ, List.setIfInBounds_toArray, List.set_cons_zero, List.set_cons_succ])
        cases cb
        case false =>
          have hTe := HTE.out rfl
          clear HTE hcb
          refine wpAnyH_take (i := 67) (v := (.pointer (some ⟨w28.heap.size, 1, none⟩))) rfl (by as_aux_lemma => kernel_rfl) (by as_aux_lemma => kernel_rfl) (by as_aux_lemma => kernel_rfl) (fun _ _ _ h => h) (Or.inl ⟨by kernel_rfl, ?_⟩) hS ?_
          · intro w hSw; (try dsimp only at hSw); go_simp; all_goals (try omega)
          (try simp only [Act.put, List.getElem_toArray, List.getElem_cons_zero, List.getElem_cons_succ, List.setIfInBounds_toArray, List.set_cons_zero, List.set_cons_succ])
          refine wpAnyH_take (i := 68) (v := (.string T)) rfl (by as_aux_lemma => kernel_rfl) (by as_aux_lemma => kernel_rfl) (by as_aux_lemma => kernel_rfl) (fun _ _ _ h => h) (Or.inl ⟨by kernel_rfl, ?_⟩) hS ?_
          · intro w hSw; (try dsimp only at hSw); obtain ⟨hSb, hl0, hl1, hl2, hl3, hl4, hl5, hl6, hl7, hl8, hl9, hl10, hl11, hl12, hl13, hl14⟩ := hSw; go_simp; all_goals (try omega)
          (try simp only [Act.put, List.getElem_toArray, List.getElem_cons_zero, List.getElem_cons_succ, List.setIfInBounds_toArray, List.set_cons_zero, List.set_cons_succ])
          refine wpAnyH_take (i := 69) (v := (.bool true)) rfl (by as_aux_lemma => kernel_rfl) (by as_aux_lemma => kernel_rfl) (by as_aux_lemma => kernel_rfl) (fun _ _ _ h => h) (Or.inl ⟨by kernel_rfl, ?_⟩) hS ?_
          · intro w hSw; (try dsimp only at hSw); go_simp; all_goals (try omega)
          (try simp only [Act.put, List.getElem_toArray, List.getElem_cons_zero, List.getElem_cons_succ, List.setIfInBounds_toArray, List.set_cons_zero, List.set_cons_succ])
          refine wpAnyH_take (i := 70) (v := (.bool true)) rfl (by as_aux_lemma => kernel_rfl) (by as_aux_lemma => kernel_rfl) (by as_aux_lemma => kernel_rfl) (fun _ _ _ h => h) (Or.inl ⟨by kernel_rfl, ?_⟩) hS ?_
          · intro w hSw; (try dsimp only at hSw); go_simp; all_goals (try omega)
          (try simp only [Act.put, List.getElem_toArray, List.getElem_cons_zero, List.getElem_cons_succ, List.setIfInBounds_toArray, List.set_cons_zero, List.set_cons_succ])
          refine wpAnyH_take (i := 71) (v := (.bool true)) rfl (by as_aux_lemma => kernel_rfl) (by as_aux_lemma => kernel_rfl) (by as_aux_lemma => kernel_rfl) (fun _ _ _ h => h) (Or.inl ⟨by kernel_rfl, ?_⟩) hS ?_
          · intro w hSw; (try dsimp only at hSw); go_simp; all_goals (try omega)
          (try simp only [Act.put, List.getElem_toArray, List.getElem_cons_zero, List.getElem_cons_succ, List.setIfInBounds_toArray, List.set_cons_zero, List.set_cons_succ])
          refine wpAnyH_take (i := 72) (v := (.bool true)) rfl (by as_aux_lemma => kernel_rfl) (by as_aux_lemma => kernel_rfl) (by as_aux_lemma => kernel_rfl) (fun _ _ _ h => h) (Or.inl ⟨by kernel_rfl, ?_⟩) hS ?_
          · intro w hSw; (try dsimp only at hSw); go_simp; all_goals (try omega)
          (try simp only [Act.put, List.getElem_toArray, List.getElem_cons_zero, List.getElem_cons_succ, List.setIfInBounds_toArray, List.set_cons_zero, List.set_cons_succ])
          refine wpAnyH_done (by kernel_rfl) ?_ _
          clear hS
          go_wp2
          go_ret
          refine ⟨?_, hb⟩
          rename_i _ d1 h1 _ d2 h2
          have e1 : d1 = 2 := Option.some.inj (show some d1 = some 2 from h1.symm)
          have e2 : d2 = 158 := Option.some.inj (show some d2 = some 158 from h2.symm)
          rw [e1, e2]
          first | rfl | kernel_rfl
        case true =>
          clear HTE hcb
          refine wpAnyH_take (i := 67) (v := undef) rfl (by as_aux_lemma => kernel_rfl) (by as_aux_lemma => kernel_rfl) (by as_aux_lemma => kernel_rfl) (fun _ _ _ h => h) (Or.inr ⟨by kernel_rfl, rfl⟩) hS ?_
          (try simp only [Act.put, List.getElem_toArray, List.getElem_cons_zero, List.getElem_cons_succ, List.setIfInBounds_toArray, List.set_cons_zero, List.set_cons_succ])
          refine wpAnyH_take (i := 68) (v := undef) rfl (by as_aux_lemma => kernel_rfl) (by as_aux_lemma => kernel_rfl) (by as_aux_lemma => kernel_rfl) (fun _ _ _ h => h) (Or.inr ⟨by kernel_rfl, rfl⟩) hS ?_
          (try simp only [Act.put, List.getElem_toArray, List.getElem_cons_zero, List.getElem_cons_succ, List.setIfInBounds_toArray, List.set_cons_zero, List.set_cons_succ])
          refine wpAnyH_take (i := 69) (v := undef) rfl (by as_aux_lemma => kernel_rfl) (by as_aux_lemma => kernel_rfl) (by as_aux_lemma => kernel_rfl) (fun _ _ _ h => h) (Or.inr ⟨by kernel_rfl, rfl⟩) hS ?_
          (try simp only [Act.put, List.getElem_toArray, List.getElem_cons_zero, List.getElem_cons_succ, List.setIfInBounds_toArray, List.set_cons_zero, List.set_cons_succ])
          refine wpAnyH_take (i := 70) (v := (.bool true)) rfl (by as_aux_lemma => kernel_rfl) (by as_aux_lemma => kernel_rfl) (by as_aux_lemma => kernel_rfl) (fun _ _ _ h => h) (Or.inl ⟨by kernel_rfl, ?_⟩) hS ?_
          · intro w hSw; (try dsimp only at hSw); go_simp; all_goals (try omega)
          (try simp only [Act.put, List.getElem_toArray, List.getElem_cons_zero, List.getElem_cons_succ, List.setIfInBounds_toArray, List.set_cons_zero, List.set_cons_succ])
          refine wpAnyH_take (i := 71) (v := (.bool true)) rfl (by as_aux_lemma => kernel_rfl) (by as_aux_lemma => kernel_rfl) (by as_aux_lemma => kernel_rfl) (fun _ _ _ h => h) (Or.inl ⟨by kernel_rfl, ?_⟩) hS ?_
          · intro w hSw; (try dsimp only at hSw); go_simp; all_goals (try omega)
          (try simp only [Act.put, List.getElem_toArray, List.getElem_cons_zero, List.getElem_cons_succ, List.setIfInBounds_toArray, List.set_cons_zero, List.set_cons_succ])
          refine wpAnyH_take (i := 72) (v := (.bool true)) rfl (by as_aux_lemma => kernel_rfl) (by as_aux_lemma => kernel_rfl) (by as_aux_lemma => kernel_rfl) (fun _ _ _ h => h) (Or.inl ⟨by kernel_rfl, ?_⟩) hS ?_
          · intro w hSw; (try dsimp only at hSw); go_simp; all_goals (try omega)
          (try simp only [Act.put, List.getElem_toArray, List.getElem_cons_zero, List.getElem_cons_succ, List.setIfInBounds_toArray, List.set_cons_zero, List.set_cons_succ])
          refine wpAnyH_done (by kernel_rfl) ?_ _
          clear hS
          go_wp2
          go_ret
          refine ⟨?_, hb⟩
          rename_i _ d1 h1 _ d2 h2
          have e1 : d1 = 2 := Option.some.inj (show some d1 = some 2 from h1.symm)
          have e2 : d2 = 158 := Option.some.inj (show some d2 = some 158 from h2.symm)
          rw [e1, e2]
          first | rfl | kernel_rfl
    · have qAE : ∀ w, (binOp .neq 29 (.agg #[.int .i64 A1, .int .i64 A2]) (.agg #[.int .i64 E1, .int .i64 E2])).run Tryd.prog w = .ok (.bool true) w := fun w => by rw [neqSpot, decide_eq_true hAE]
      by_cases hA0 : A1 = 0 ∧ A2 = 0
      · have qA0 : ∀ w, (binOp .neq 29 (.agg #[.int .i64 A1, .int .i64 A2]) (.agg #[.int .i64 0, .int .i64 0])).run Tryd.prog w = .ok (.bool false) w := fun w => by rw [neqSpot, decide_eq_false (fun h => h hA0)]
        clear hAE hA0
        clear m4
        go_wp2_with fail
        have bp : ∀ o0 o1 o2, Below w1.heap.size w1 (((w1.alloc o0).alloc o1).alloc o2) := fun o0 o1 o2 => (((Below.refl _ _).alloc (Nat.le_refl _) o0).alloc (by simp) o1).alloc (by simp; omega) o2
        have hbt : ∀ o0 o1 o2, Below w.heap.size w (((w1.alloc o0).alloc o1).alloc o2) := fun o0 o1 o2 => hb.trans ((bp o0 o1 o2).mono hb.size)
        refine Calls.mono (HIM.out _ (ry.below (bp _ _ _)).read) ?_
        rintro e w2 ⟨rfl, hc⟩
        have s2 : w1.heap.size + 3 ≤ w2.heap.size := by have := hc.size; simp at this; omega
        have bq : Below w1.heap.size w1 w2 := (bp _ _ _).trans (hc.mono (bp _ _ _).size)
        have cF0 : w2.cell? ⟨w1.heap.size, 0, none⟩ = some (.slice ay ys.length ky) := cell_later hc (by simp [go_sem])
        have zF : w1.heap.size < w2.heap.size := by omega
        have cL0 : w2.cell? ⟨w1.heap.size + 1, 0, none⟩ = some (.int .i64 W) := cell_later hc (by simp [go_sem])
        have cL1 : w2.cell? ⟨w1.heap.size + 1, 1, none⟩ = some (.bool Q) := cell_later hc (by simp [go_sem])
        have cL2 : w2.cell? ⟨w1.heap.size + 1, 2, none⟩ = some (.int .i64 S) := cell_later hc (by simp [go_sem])
        have zL : w1.heap.size + 1 < w2.heap.size := by omega
        have cP0 : w2.cell? ⟨w1.heap.size + 1 + 1, 0, none⟩ = some (.int .i64 L) := cell_later hc (by simp [go_sem])
        have cP1 : w2.cell? ⟨w1.heap.size + 1 + 1, 1, none⟩ = some (.int .i64 R) := cell_later hc (by simp [go_sem])
        have zP : w1.heap.size + 1 + 1 < w2.heap.size := by omega
        replace ry := ry.below bq
        replace hb := hb.trans (bq.mono hb.size)
        clear hc bq bp hbt
        go_wp2_with fail
        have bp : ∀ o0, Below w2.heap.size w2 (w2.alloc o0) := fun o0 => (Below.refl _ _).alloc (Nat.le_refl _) o0
        have hbt : ∀ o0, Below w.heap.size w (w2.alloc o0) := fun o0 => hb.trans ((bp o0).mono hb.size)
        refine Calls.mono (HME.out _ (ry.below (bp _)).read) ?_
        rintro e w3 ⟨rfl, hc⟩
        have s3 : w2.heap.size + 1 ≤ w3.heap.size := by have := hc.size; simp at this; omega
        have bq : Below w2.heap.size w2 w3 := (bp _).trans (hc.mono (bp _).size)
        replace cF0 := cell_later bq cF0
        replace zF := Nat.lt_of_lt_of_le zF bq.size
        replace cL0 := cell_later bq cL0
        replace cL1 := cell_later bq cL1
        replace cL2 := cell_later bq cL2
        replace zL := Nat.lt_of_lt_of_le zL bq.size
        replace cP0 := cell_later bq cP0
        replace cP1 := cell_later bq cP1
        replace zP := Nat.lt_of_lt_of_le zP bq.size
        have cA0 : w3.cell? ⟨w2.heap.size, 0, none⟩ = some (.int .i64 0) := cell_later hc (by simp [go_sem])
        have cA1 : w3.cell? ⟨w2.heap.size, 1, none⟩ = some (.int .i64 A1) := cell_later hc (by simp [go_sem])
        have cA2 : w3.cell? ⟨w2.heap.size, 2, none⟩ = some (.int .i64 A2) := cell_later hc (by simp [go_sem])
        have zA : w2.heap.size < w3.heap.size := by omega
        replace ry := ry.below bq
        replace hb := hb.trans (bq.mono hb.size)
        clear hc bq bp hbt
        go_wp2_with fail
        have bp : ∀ o0, Below w3.heap.size w3 (w3.alloc o0) := fun o0 => (Below.refl _ _).alloc (Nat.le_refl _) o0
        have hbt : ∀ o0, Below w.heap.size w (w3.alloc o0) := fun o0 => hb.trans ((bp o0).mono hb.size)
        refine Calls.mono (HMF.out _ (ry.below (bp _)).read) ?_
        rintro e w4 ⟨rfl, hc⟩
        have s4 : w3.heap.size + 1 ≤ w4.heap.size := by have := hc.size; simp at this; omega
        have bq : Below w3.heap.size w3 w4 := (bp _).trans (hc.mono (bp _).size)
        replace cF0 := cell_later bq cF0
        replace zF := Nat.lt_of_lt_of_le zF bq.size
        replace cL0 := cell_later bq cL0
        replace cL1 := cell_later bq cL1
        replace cL2 := cell_later bq cL2
        replace zL := Nat.lt_of_lt_of_le zL bq.size
        replace cP0 := cell_later bq cP0
        replace cP1 := cell_later bq cP1
        replace zP := Nat.lt_of_lt_of_le zP bq.size
        replace cA0 := cell_later bq cA0
        replace cA1 := cell_later bq cA1
        replace cA2 := cell_later bq cA2
        replace zA := Nat.lt_of_lt_of_le zA bq.size
        have cE0 : w4.cell? ⟨w3.heap.size, 0, none⟩ = some (.int .i64 0) := cell_later hc (by simp [go_sem])
        have cE1 : w4.cell? ⟨w3.heap.size, 1, none⟩ = some (.int .i64 E1) := cell_later hc (by simp [go_sem])
        have cE2 : w4.cell? ⟨w3.heap.size, 2, none⟩ = some (.int .i64 E2) := cell_later hc (by simp [go_sem])
        have zE : w3.heap.size < w4.heap.size := by omega
        replace ry := ry.below bq
        replace hb := hb.trans (bq.mono hb.size)
        clear hc bq bp hbt
        go_wp2_with fail
        have bp : ∀ o0, Below w4.heap.size w4 (w4.alloc o0) := fun o0 => (Below.refl _ _).alloc (Nat.le_refl _) o0
        have hbt : ∀ o0, Below w.heap.size w (w4.alloc o0) := fun o0 => hb.trans ((bp o0).mono hb.size)
        refine Calls.mono (HMG.out _ (ry.below (bp _)).read) ?_
        rintro e w5 ⟨rfl, hc⟩
        have s5 : w4.heap.size + 1 ≤ w5.heap.size := by have := hc.size; simp at this; omega
        have bq : Below w4.heap.size w4 w5 := (bp _).trans (hc.mono (bp _).size)
        replace cF0 := cell_later bq cF0
        replace zF := Nat.lt_of_lt_of_le zF bq.size
        replace cL0 := cell_later bq cL0
        replace cL1 := cell_later bq cL1
        replace cL2 := cell_later bq cL2
        replace zL := Nat.lt_of_lt_of_le zL bq.size
        replace cP0 := cell_later bq cP0
        replace cP1 := cell_later bq cP1
        replace zP := Nat.lt_of_lt_of_le zP bq.size
        replace cA0 := cell_later bq cA0
        replace cA1 := cell_later bq cA1
        replace cA2 := cell_later bq cA2
        replace zA := Nat.lt_of_lt_of_le zA bq.size
        replace cE0 := cell_later bq cE0
        replace cE1 := cell_later bq cE1
        replace cE2 := cell_later bq cE2
        replace zE := Nat.lt_of_lt_of_le zE bq.size
        have cZ0 : w5.cell? ⟨w4.heap.size, 0, none⟩ = some (.int .i64 0) := cell_later hc (by simp [go_sem])
        have cZ1 : w5.cell? ⟨w4.heap.size, 1, none⟩ = some (.int .i64 0) := cell_later hc (by simp [go_sem])
        have cZ2 : w5.cell? ⟨w4.heap.size, 2, none⟩ = some (.int .i64 0) := cell_later hc (by simp [go_sem])
        have zZ : w4.heap.size < w5.heap.size := by omega
        replace ry := ry.below bq
        replace hb := hb.trans (bq.mono hb.size)
        clear hc bq bp hbt
        go_wp2_with fail
        have bp : ∀ o0, Below w5.heap.size w5 (w5.alloc o0) := fun o0 => (Below.refl _ _).alloc (Nat.le_refl _) o0
        have hbt : ∀ o0, Below w.heap.size w (w5.alloc o0) := fun o0 => hb.trans ((bp o0).mono hb.size)
        refine Calls.mono (HMO.out _ (ry.below (bp _)).read) ?_
        rintro e w6 ⟨rfl, hc⟩
        have s6 : w5.heap.size + 1 ≤ w6.heap.size := by have := hc.size; simp at this; omega
        have bq : Below w5.heap.size w5 w6 := (bp _).trans (hc.mono (bp _).size)
        replace cF0 := cell_later bq cF0
        replace zF := Nat.lt_of_lt_of_le zF bq.size
        replace cL0 := cell_later bq cL0
        replace cL1 := cell_later bq cL1
        replace cL2 := cell_later bq cL2
        replace zL := Nat.lt_of_lt_of_le zL bq.size
        replace cP0 := cell_later bq cP0
        replace cP1 := cell_later bq cP1
        replace zP := Nat.lt_of_lt_of_le zP bq.size
        replace cA0 := cell_later bq cA0
        replace cA1 := cell_later bq cA1
        replace cA2 := cell_later bq cA2
        replace zA := Nat.lt_of_lt_of_le zA bq.size
        replace cE0 := cell_later bq cE0
        replace cE1 := cell_later bq cE1
        replace cE2 := cell_later bq cE2
        replace zE := Nat.lt_of_lt_of_le zE bq.size
        replace cZ0 := cell_later bq cZ0
        replace cZ1 := cell_later bq cZ1
        replace cZ2 := cell_later bq cZ2
        replace zZ := Nat.lt_of_lt_of_le zZ bq.size
        have cG0 : w6.cell? ⟨w5.heap.size, 0, none⟩ = some (.int .i64 0) := cell_later hc (by simp [go_sem])
        have cG1 : w6.cell? ⟨w5.heap.size, 1, none⟩ = some (.int .i64 G1) := cell_later hc (by simp [go_sem])
        have cG2 : w6.cell? ⟨w5.heap.size, 2, none⟩ = some (.int .i64 G2) := cell_later hc (by simp [go_sem])
        have zG : w5.heap.size < w6.heap.size := by omega
        replace ry := ry.below bq
        replace hb := hb.trans (bq.mono hb.size)
        clear hc bq bp hbt
        go_wp2_with fail
        have bp : ∀ o0, Below w6.heap.size w6 (w6.alloc o0) := fun o0 => (Below.refl _ _).alloc (Nat.le_refl _) o0
        have hbt : ∀ o0, Below w.heap.size w (w6.alloc o0) := fun o0 => hb.trans ((bp o0).mono hb.size)
        obtain ⟨w7, hw7⟩ : ∃ x, (w6.alloc (.cells #[.int .i64 0, .int .i64 O1, .int .i64 O2] 33)) = x := ⟨_, rfl⟩
        have hc : Below ((w6.alloc (.cells #[.int .i64 0, .int .i64 O1, .int .i64 O2] 33))).heap.size ((w6.alloc (.cells #[.int .i64 0, .int .i64 O1, .int .i64 O2] 33))) w7 := hw7 ▸ Below.refl _ _
        have s7 : w6.heap.size + 1 ≤ w7.heap.size := by have := hc.size; simp at this; omega
        have bq : Below w6.heap.size w6 w7 := (bp _).trans (hc.mono (bp _).size)
        replace cF0 := cell_later bq cF0
        replace zF := Nat.lt_of_lt_of_le zF bq.size
        replace cL0 := cell_later bq cL0
        replace cL1 := cell_later bq cL1
        replace cL2 := cell_later bq cL2
        replace zL := Nat.lt_of_lt_of_le zL bq.size
        replace cP0 := cell_later bq cP0
        replace cP1 := cell_later bq cP1
        replace zP := Nat.lt_of_lt_of_le zP bq.size
        replace cA0 := cell_later bq cA0
        replace cA1 := cell_later bq cA1
        replace cA2 := cell_later bq cA2
        replace zA := Nat.lt_of_lt_of_le zA bq.size
        replace cE0 := cell_later bq cE0
        replace cE1 := cell_later bq cE1
        replace cE2 := cell_later bq cE2
        replace zE := Nat.lt_of_lt_of_le zE bq.size
        replace cZ0 := cell_later bq cZ0
        replace cZ1 := cell_later bq cZ1
        replace cZ2 := cell_later bq cZ2
        replace zZ := Nat.lt_of_lt_of_le zZ bq.size
        replace cG0 := cell_later bq cG0
        replace cG1 := cell_later bq cG1
        replace cG2 := cell_later bq cG2
        replace zG := Nat.lt_of_lt_of_le zG bq.size
        have cO0 : w7.cell? ⟨w6.heap.size, 0, none⟩ = some (.int .i64 0) := cell_later hc (by simp [go_sem])
        have cO1 : w7.cell? ⟨w6.heap.size, 1, none⟩ = some (.int .i64 O1) := cell_later hc (by simp [go_sem])
        have cO2 : w7.cell? ⟨w6.heap.size, 2, none⟩ = some (.int .i64 O2) := cell_later hc (by simp [go_sem])
        have zO : w6.heap.size < w7.heap.size := by omega
        replace ry := ry.below bq
        replace hb := hb.trans (bq.mono hb.size)
        clear hc bq bp hbt
        rw [hw7]
        clear hw7
        refine region_join (fun a a' w' => ∃ (x71 x72 x73 x74 x75 x76 x77 x78 x79 x80 x81 x82 x83 : Value), a' = ((((((((((((((a.put (some 71) x71).put (some 72) x72).put (some 73) x73).put (some 74) x74).put (some 75) x75).put (some 76) x76).put (some 77) x77).put (some 78) x78).put (some 79) x79).put (some 80) x80).put (some 81) x81).put (some 82) x82).put (some 83) x83).put (some 84) (.bool false)) ∧ Below w.heap.size w w' ∧ RowI .u8 5 w' w.heap.size w1.heap.size (.slice ay ys.length ky) ys.length ys ∧ w'.cell? ⟨w1.heap.size, 0, none⟩ = some (.slice ay ys.length ky) ∧ w1.heap.size < w'.heap.size ∧ w'.cell? ⟨w1.heap.size + 1, 0, none⟩ = some (.int .i64 W) ∧ w'.cell? ⟨w1.heap.size + 1, 1, none⟩ = some (.bool Q) ∧ w'.cell? ⟨w1.heap.size + 1, 2, none⟩ = some (.int .i64 S) ∧ w1.heap.size + 1 < w'.heap.size ∧ w'.cell? ⟨w1.heap.size + 1 + 1, 0, none⟩ = some (.int .i64 L) ∧ w'.cell? ⟨w1.heap.size + 1 + 1, 1, none⟩ = some (.int .i64 R) ∧ w1.heap.size + 1 + 1 < w'.heap.size ∧ w'.cell? ⟨w2.heap.size, 0, none⟩ = some (.int .i64 0) ∧ w'.cell? ⟨w2.heap.size, 1, none⟩ = some (.int .i64 A1) ∧ w'.cell? ⟨w2.heap.size, 2, none⟩ = some (.int .i64 A2) ∧ w2.heap.size < w'.heap.size ∧ w'.cell? ⟨w3.heap.size, 0, none⟩ = some (.int .i64 0) ∧ w'.cell? ⟨w3.heap.size, 1, none⟩ = some (.int .i64 E1) ∧ w'.cell? ⟨w3.heap.size, 2, none⟩ = some (.int .i64 E2) ∧ w3.heap.size < w'.heap.size ∧ w'.cell? ⟨w4.heap.size, 0, none⟩ = some (.int .i64 0) ∧ w'.cell? ⟨w4.heap.size, 1, none⟩ = some (.int .i64 0) ∧ w'.cell? ⟨w4.heap.size, 2, none⟩ = some (.int .i64 0) ∧ w4.heap.size < w'.heap.size ∧ w'.cell? ⟨w5.heap.size, 0, none⟩ = some (.int .i64 0) ∧ w'.cell? ⟨w5.heap.size, 1, none⟩ = some (.int .i64 G1) ∧ w'.cell? ⟨w5.heap.size, 2, none⟩ = some (.int .i64 G2) ∧ w5.heap.size < w'.heap.size ∧ w'.cell? ⟨w6.heap.size, 0, none⟩ = some (.int .i64 0) ∧ w'.cell? ⟨w6.heap.size, 1, none⟩ = some (.int .i64 O1) ∧ w'.cell? ⟨w6.heap.size, 2, none⟩ = some (.int .i64 O2) ∧ w6.heap.size < w'.heap.size) ?_ ?_
        · skip
          by_cases hO : O1 = L ∧ O2 = R
          · have qOS : ∀ w, (binOp .neq 29 (.agg #[.int .i64 O1, .int .i64 O2]) (.agg #[.int .i64 L, .int .i64 R])).run Tryd.prog w = .ok (.bool false) w := fun w => by rw [neqSpot, decide_eq_false (fun h => h hO)]
            clear hO m6 MB
            have bd : Below w7.heap.size w7 w7.drew := (Below.refl _ _).drew
            refine wp_region_held_drew (S := fun w' => Below w.heap.size w w' ∧ w'.cell? ⟨w6.heap.size, 1, none⟩ = some (.int .i64 O1) ∧ w'.cell? ⟨w6.heap.size, 2, none⟩ = some (.int .i64 O2) ∧ w'.cell? ⟨w1.heap.size + 1 + 1, 0, none⟩ = some (.int .i64 L) ∧ w'.cell? ⟨w1.heap.size + 1 + 1, 1, none⟩ = some (.int .i64 R)) (by kernel_rfl) ⟨(hb.trans (bd.mono hb.size)), cell_later bd cO1, cell_later bd cO2, cell_later bd cP0, cell_later bd cP1⟩ (fun hS => ?_)
            obtain ⟨D7, hD⟩ : ∃ D, w7.drew = D := ⟨_, rfl⟩
            rw [hD] at hS bd ⊢
            have hc := bd
            clear hD bd
            have s8 : w7.heap.size ≤ D7.heap.size := hc.size
            have bq := hc
            replace cF0 := cell_later bq cF0
            replace zF := Nat.lt_of_lt_of_le zF bq.size
            replace cL0 := cell_later bq cL0
            replace cL1 := cell_later bq cL1
            replace cL2 := cell_later bq cL2
            replace zL := Nat.lt_of_lt_of_le zL bq.size
            replace cP0 := cell_later bq cP0
            replace cP1 := cell_later bq cP1
            replace zP := Nat.lt_of_lt_of_le zP bq.size
            replace cA0 := cell_later bq cA0
            replace cA1 := cell_later bq cA1
            replace cA2 := cell_later bq cA2
            replace zA := Nat.lt_of_lt_of_le zA bq.size
            replace cE0 := cell_later bq cE0
            replace cE1 := cell_later bq cE1
            replace cE2 := cell_later bq cE2
            replace zE := Nat.lt_of_lt_of_le zE bq.size
            replace cZ0 := cell_later bq cZ0
            replace cZ1 := cell_later bq cZ1
            replace cZ2 := cell_later bq cZ2
            replace zZ := Nat.lt_of_lt_of_le zZ bq.size
            replace cG0 := cell_later bq cG0
            replace cG1 := cell_later bq cG1
            replace cG2 := cell_later bq cG2
            replace zG := Nat.lt_of_lt_of_le zG bq.size
            replace cO0 := cell_later bq cO0
            replace cO1 := cell_later bq cO1
            replace cO2 := cell_later bq cO2
            replace zO := Nat.lt_of_lt_of_le zO bq.size
            replace ry := ry.below bq
            replace hb := hb.trans (bq.mono hb.size)
            clear hc bq
            refine wpAnyH_take (i := 0) (v := (.pointer (some ⟨w6.heap.size, 1, none⟩))) rfl (by as_aux_lemma => kernel_rfl) (by as_aux_lemma => kernel_rfl) (by as_aux_lemma => kernel_rfl) (fun _ _ _ h => nomatch h.1) (Or.inl ⟨by kernel_rfl, ?_⟩) hS ?_
            · intro w hSw; (try dsimp only at hSw); go_simp; all_goals (try omega)
            (try simp only [Act.put, List.getElem_toArray, List.getElem_cons_zero, List.getElem_cons_succ, List.setIfInBounds_toArray, List.set_cons_zero, List.set_cons_succ])
            refine wpAnyH_take (i := 1) (v := (.agg #[.int .i64 O1, .int .i64 O2])) rfl (by as_aux_lemma => kernel_rfl) (by as_aux_lemma => kernel_rfl) (by as_aux_lemma => kernel_rfl) (fun _ _ _ h => nomatch h.1) (Or.inl ⟨by kernel_rfl, ?_⟩) hS ?_
            · intro w hSw; (try dsimp only at hSw); obtain ⟨hSb, hl0, hl1, hl2, hl3⟩ := hSw; go_simp; all_goals (try omega)
            (try simp only [Act.put, List.getElem_toArray, List.getElem_cons_zero, List.getElem_cons_succ, List.setIfInBounds_toArray, List.set_cons_zero, List.set_cons_succ])
            refine wpAnyH_take (i := 2) (v := (.agg #[.int .i64 L, .int .i64 R])) rfl (by as_aux_lemma => kernel_rfl) (by as_aux_lemma => kernel_rfl) (by as_aux_lemma => kernel_rfl) (fun _ _ _ h => nomatch h.1) (Or.inl ⟨by kernel_rfl, ?_⟩) hS ?_
            · intro w hSw; (try dsimp only at hSw); obtain ⟨hSb, hl0, hl1, hl2, hl3⟩ := hSw; go_simp; all_goals (try omega)
            (try simp only [Act.put, List.getElem_toArray, List.getElem_cons_zero, List.getElem_cons_succ, List.setIfInBounds_toArray, List.set_cons_zero, List.set_cons_succ])
            refine wpAnyH_take (i := 3) (v := (.bool false)) rfl (by as_aux_lemma => kernel_rfl) (by as_aux_lemma => kernel_rfl) (by as_aux_lemma => kernel_rfl) (fun _ _ _ h => nomatch h.1) (Or.inl ⟨by kernel_rfl, ?_⟩) hS ?_
            · intro w hSw; (try dsimp only at hSw); go_simp; all_goals (try omega)
            (try simp only [Act.put, List.getElem_toArray, List.getElem_cons_zero, List.getElem_cons_succ, List.setIfInBounds_toArray, List.set_cons_zero, List.set_cons_succ])
            refine wpAnyH_take (i := 4) (v := (.bool false)) rfl (by as_aux_lemma => kernel_rfl) (by as_aux_lemma => kernel_rfl) (by as_aux_lemma => kernel_rfl) (fun _ _ _ h => nomatch h.1) (Or.inl ⟨by kernel_rfl, ?_⟩) hS ?_
            · intro w hSw; (try dsimp only at hSw); go_simp; all_goals (try omega)
            (try simp only [Act.put, List.getElem_toArray, List.getElem_cons_zero, List.getElem_cons_succ, List.setIfInBounds_toArray, List.set_cons_zero, List.set_cons_succ])
            refine wpAnyH_take (i := 5) (v := undef) rfl (by as_aux_lemma => kernel_rfl) (by as_aux_lemma => kernel_rfl) (by as_aux_lemma => kernel_rfl) (fun _ _ _ h => nomatch h.1) (Or.inr ⟨by kernel_rfl, rfl⟩) hS ?_
            (try simp only [Act.put, List.getElem_toArray, List.getElem_cons_zero, List.getElem_cons_succ, List.setIfInBounds_toArray, List.set_cons_zero, List.set_cons_succ])
            refine wpAnyH_take (i := 6) (v := undef) rfl (by as_aux_lemma => kernel_rfl) (by as_aux_lemma => kernel_rfl) (by as_aux_lemma => kernel_rfl) (fun _ _ _ h => nomatch h.1) (Or.inr ⟨by kernel_rfl, rfl⟩) hS ?_
            (try simp only [Act.put, List.getElem_toArray, List.getElem_cons_zero, List.getElem_cons_succ, List.setIfInBounds_toArray, List.set_cons_zero, List.set_cons_succ])
            refine wpAnyH_take (i := 7) (v := undef) rfl (by as_aux_lemma => kernel_rfl) (by as_aux_lemma => kernel_rfl) (by as_aux_lemma => kernel_rfl) (fun _ _ _ h => nomatch h.1) (Or.inr ⟨by kernel_rfl, rfl⟩) hS ?_
            (try simp only [Act.put, List.getElem_toArray, List.getElem_cons_zero, List.getElem_cons_succ, List.setIfInBounds_toArray, List.set_cons_zero, List.set_cons_succ])
            refine wpAnyH_take (i := 8) (v := undef) rfl (by as_aux_lemma => kernel_rfl) (by as_aux_lemma => kernel_rfl) (by as_aux_lemma => kernel_rfl) (fun _ _ _ h => nomatch h.1) (Or.inr ⟨by kernel_rfl, rfl⟩) hS ?_
            (try simp only [Act.put, List.getElem_toArray, List.getElem_cons_zero, List.getElem_cons_succ, List.setIfInBounds_toArray, List.set_cons_zero, List.set_cons_succ])
            refine wpAnyH_take (i := 9) (v := undef) rfl (by as_aux_lemma => kernel_rfl) (by as_aux_lemma => kernel_rfl) (by as_aux_lemma => kernel_rfl) (fun _ _ _ h => nomatch h.1) (Or.inr ⟨by kernel_rfl, rfl⟩) hS ?_
            (try simp only [Act.put, List.getElem_toArray, List.getElem_cons_zero, List.getElem_cons_succ, List.setIfInBounds_toArray, List.set_cons_zero, List.set_cons_succ])
            refine wpAnyH_take (i := 10) (v := undef) rfl (by as_aux_lemma => kernel_rfl) (by as_aux_lemma => kernel_rfl) (by as_aux_lemma => kernel_rfl) (fun _ _ _ h => nomatch h.1) (Or.inr ⟨by kernel_rfl, rfl⟩) hS ?_
            (try simp only [Act.put, List.getElem_toArray, List.getElem_cons_zero, List.getElem_cons_succ, List.setIfInBounds_toArray, List.set_cons_zero, List.set_cons_succ])
            refine wpAnyH_take (i := 11) (v := undef) rfl (by as_aux_lemma => kernel_rfl) (by as_aux_lemma => kernel_rfl) (by as_aux_lemma => kernel_rfl) (fun _ _ _ h => nomatch h.1) (Or.inr ⟨by kernel_rfl, rfl⟩) hS ?_
            (try simp only [Act.put, List.getElem_toArray, List.getElem_cons_zero, List.getElem_cons_succ, List.setIfInBounds_toArray, List.set_cons_zero, List.set_cons_succ])
            refine wpAnyH_take (i := 12) (v := undef) rfl (by as_aux_lemma => kernel_rfl) (by as_aux_lemma => kernel_rfl) (by as_aux_lemma => kernel_rfl) (fun _ _ _ h => nomatch h.1) (Or.inr ⟨by kernel_rfl, rfl⟩) hS ?_
            (try simp only [Act.put, List.getElem_toArray, List.getElem_cons_zero, List.getElem_cons_succ, List.setIfInBounds_toArray, List.set_cons_zero, List.set_cons_succ])
            refine wpAnyH_take (i := 13) (v := (.bool false)) rfl (by as_aux_lemma => kernel_rfl) (by as_aux_lemma => kernel_rfl) (by as_aux_lemma => kernel_rfl) (fun _ _ _ h => nomatch h.1) (Or.inl ⟨by kernel_rfl, ?_⟩) hS ?_
            · intro w hSw; (try dsimp only at hSw); go_simp; all_goals (try omega)
            (try simp only [Act.put, List.getElem_toArray, List.getElem_cons_zero, List.getElem_cons_succ, List.setIfInBounds_toArray, List.set_cons_zero, List.set_cons_succ])
            refine wpAnyH_done (by kernel_rfl) ?_ _
            refine ⟨rfl, (.pointer (some ⟨w6.heap.size, 1, none⟩)), (.agg #[.int .i64 O1, .int .i64 O2]), (.agg #[.int .i64 L, .int .i64 R]), (.bool false), (.bool false), (undef), (undef), (undef), (undef), (undef), (undef), (undef), (undef), ?_, hb, ry, cF0, zF, cL0, cL1, cL2, zL, cP0, cP1, zP, cA0, cA1, cA2, zA, cE0, cE1, cE2, zE, cZ0, cZ1, cZ2, zZ, cG0, cG1, cG2, zG, cO0, cO1, cO2, zO⟩
            (try simp only [Act.put, List.getElem_toArray, List.getElem_cons_zero, List.getElem_cons_succ, List.setIfInBounds_toArray, List.set_cons_zero, List.set_cons_succ])
          · have qOS : ∀ w, (binOp .neq 29 (.agg #[.int .i64 O1, .int .i64 O2]) (.agg #[.int .i64 L, .int .i64 R])).run Tryd.prog w = .ok (.bool true) w := fun w => by rw [neqSpot, decide_eq_true hO]
            have hBB : L = B1 ∧ R = B2 := by have e := m6 (fun e => hO (by rw [Prod.mk.injEq] at e; exact e)); rw [Prod.mk.injEq] at e; exact ⟨e.1.symm, e.2.symm⟩
            obtain ⟨rfl, rfl⟩ := hBB
            have HMB : Hid _ := MB
            clear hO m6 MB
            have bd : Below w7.heap.size w7 w7.drew := (Below.refl _ _).drew
            refine wp_region_held_drew (S := fun w' => Below w.heap.size w w' ∧ w'.cell? ⟨w1.heap.size, 0, none⟩ = some (.slice ay ys.length ky) ∧ w'.cell? ⟨w1.heap.size + 1, 0, none⟩ = some (.int .i64 W) ∧ w'.cell? ⟨w1.heap.size + 1, 1, none⟩ = some (.bool Q) ∧ w'.cell? ⟨w1.heap.size + 1, 2, none⟩ = some (.int .i64 S) ∧ w'.cell? ⟨w6.heap.size, 1, none⟩ = some (.int .i64 O1) ∧ w'.cell? ⟨w6.heap.size, 2, none⟩ = some (.int .i64 O2) ∧ w'.cell? ⟨w1.heap.size + 1 + 1, 0, none⟩ = some (.int .i64 L) ∧ w'.cell? ⟨w1.heap.size + 1 + 1, 1, none⟩ = some (.int .i64 R)) (by kernel_rfl) ⟨(hb.trans (bd.mono hb.size)), cell_later bd cF0, cell_later bd cL0, cell_later bd cL1, cell_later bd cL2, cell_later bd cO1, cell_later bd cO2, cell_later bd cP0, cell_later bd cP1⟩ (fun hS => ?_)
            obtain ⟨D7, hD⟩ : ∃ D, w7.drew = D := ⟨_, rfl⟩
            rw [hD] at hS bd ⊢
            have hc := bd
            clear hD bd
            have s8 : w7.heap.size ≤ D7.heap.size := hc.size
            have bq := hc
            replace cF0 := cell_later bq cF0
            replace zF := Nat.lt_of_lt_of_le zF bq.size
            replace cL0 := cell_later bq cL0
            replace cL1 := cell_later bq cL1
            replace cL2 := cell_later bq cL2
            replace zL := Nat.lt_of_lt_of_le zL bq.size
            replace cP0 := cell_later bq cP0
            replace cP1 := cell_later bq cP1
            replace zP := Nat.lt_of_lt_of_le zP bq.size
            replace cA0 := cell_later bq cA0
            replace cA1 := cell_later bq cA1
            replace cA2 := cell_later bq cA2
            replace zA := Nat.lt_of_lt_of_le zA bq.size
            replace cE0 := cell_later bq cE0
            replace cE1 := cell_later bq cE1
            replace cE2 := cell_later bq cE2
            replace zE := Nat.lt_of_lt_of_le zE bq.size
            replace cZ0 := cell_later bq cZ0
            replace cZ1 := cell_later bq cZ1
            replace cZ2 := cell_later bq cZ2
            replace zZ := Nat.lt_of_lt_of_le zZ bq.size
            replace cG0 := cell_later bq cG0
            replace cG1 := cell_later bq cG1
            replace cG2 := cell_later bq cG2
            replace zG := Nat.lt_of_lt_of_le zG bq.size
            replace cO0 := cell_later bq cO0
            replace cO1 := cell_later bq cO1
            replace cO2 := cell_later bq cO2
            replace zO := Nat.lt_of_lt_of_le zO bq.size
            replace ry := ry.below bq
            replace hb := hb.trans (bq.mono hb.size)
            clear hc bq
            refine wpAnyH_take (i := 0) (v := (.pointer (some ⟨w6.heap.size, 1, none⟩))) rfl (by as_aux_lemma => kernel_rfl) (by as_aux_lemma => kernel_rfl) (by as_aux_lemma => kernel_rfl) (fun _ _ _ h => nomatch h.1) (Or.inl ⟨by kernel_rfl, ?_⟩) hS ?_
            · intro w hSw; (try dsimp only at hSw); go_simp; all_goals (try omega)
            (try simp only [Act.put, List.getElem_toArray, List.getElem_cons_zero, List.getElem_cons_succ, List.setIfInBounds_toArray, List.set_cons_zero, List.set_cons_succ])
            refine wpAnyH_take (i := 1) (v := (.agg #[.int .i64 O1, .int .i64 O2])) rfl (by as_aux_lemma => kernel_rfl) (by as_aux_lemma => kernel_rfl) (by as_aux_lemma => kernel_rfl) (fun _ _ _ h => nomatch h.1) (Or.inl ⟨by kernel_rfl, ?_⟩) hS ?_
            · intro w hSw; (try dsimp only at hSw); obtain ⟨hSb, hl0, hl1, hl2, hl3, hl4, hl5, hl6, hl7⟩ := hSw; go_simp; all_goals (try omega)
            (try simp only [Act.put, List.getElem_toArray, List.getElem_cons_zero, List.getElem_cons_succ, List.setIfInBounds_toArray, List.set_cons_zero, List.set_cons_succ])
            refine wpAnyH_take (i := 2) (v := (.agg #[.int .i64 L, .int .i64 R])) rfl (by as_aux_lemma => kernel_rfl) (by as_aux_lemma => kernel_rfl) (by as_aux_lemma => kernel_rfl) (fun _ _ _ h => nomatch h.1) (Or.inl ⟨by kernel_rfl, ?_⟩) hS ?_
            · intro w hSw; (try dsimp only at hSw); obtain ⟨hSb, hl0, hl1, hl2, hl3, hl4, hl5, hl6, hl7⟩ := hSw; go_simp; all_goals (try omega)
            (try simp only [Act.put, List.getElem_toArray, List.getElem_cons_zero, List.getElem_cons_succ, List.setIfInBounds_toArray, List.set_cons_zero, List.set_cons_succ])
            refine wpAnyH_take (i := 3) (v := (.bool true)) rfl (by as_aux_lemma => kernel_rfl) (by as_aux_lemma => kernel_rfl) (by as_aux_lemma => kernel_rfl) (fun _ _ _ h => nomatch h.1) (Or.inl ⟨by kernel_rfl, ?_⟩) hS ?_
            · intro w hSw; (try dsimp only at hSw); go_simp; all_goals (try omega)
            (try simp only [Act.put, List.getElem_toArray, List.getElem_cons_zero, List.getElem_cons_succ, List.setIfInBounds_toArray, List.set_cons_zero, List.set_cons_succ])
            refine wpAnyH_take (i := 4) (v := (.bool true)) rfl (by as_aux_lemma => kernel_rfl) (by as_aux_lemma => kernel_rfl) (by as_aux_lemma => kernel_rfl) (fun _ _ _ h => nomatch h.1) (Or.inl ⟨by kernel_rfl, ?_⟩) hS ?_
            · intro w hSw; (try dsimp only at hSw); go_simp; all_goals (try omega)
            (try simp only [Act.put, List.getElem_toArray, List.getElem_cons_zero, List.getElem_cons_succ, List.setIfInBounds_toArray, List.set_cons_zero, List.set_cons_succ])
            refine wpAnyH_take (i := 5) (v := (.agg #[.slice ay ys.length ky])) rfl (by as_aux_lemma => kernel_rfl) (by as_aux_lemma => kernel_rfl) (by as_aux_lemma => kernel_rfl) (fun _ _ _ h => nomatch h.1) (Or.inl ⟨by kernel_rfl, ?_⟩) hS ?_
            · intro w hSw; (try dsimp only at hSw); obtain ⟨hSb, hl0, hl1, hl2, hl3, hl4, hl5, hl6, hl7⟩ := hSw; go_simp; all_goals (try omega)
            (try simp only [Act.put, List.getElem_toArray, List.getElem_cons_zero, List.getElem_cons_succ, List.setIfInBounds_toArray, List.set_cons_zero, List.set_cons_succ])
            refine wpAnyH_take (i := 6) (v := (.agg #[.int .i64 W, .bool Q, .int .i64 S])) rfl (by as_aux_lemma => kernel_rfl) (by as_aux_lemma => kernel_rfl) (by as_aux_lemma => kernel_rfl) (fun _ _ _ h => nomatch h.1) (Or.inl ⟨by kernel_rfl, ?_⟩) hS ?_
            · intro w hSw; (try dsimp only at hSw); obtain ⟨hSb, hl0, hl1, hl2, hl3, hl4, hl5, hl6, hl7⟩ := hSw; go_simp; all_goals (try omega)
            (try simp only [Act.put, List.getElem_toArray, List.getElem_cons_zero, List.getElem_cons_succ, List.setIfInBounds_toArray, List.set_cons_zero, List.set_cons_succ])
            refine wpAnyH_take (i := 7) (v := (.pointer (some ⟨w6.heap.size, 1, none⟩))) rfl (by as_aux_lemma => kernel_rfl) (by as_aux_lemma => kernel_rfl) (by as_aux_lemma => kernel_rfl) (fun _ _ _ h => nomatch h.1) (Or.inl ⟨by kernel_rfl, ?_⟩) hS ?_
            · intro w hSw; (try dsimp only at hSw); go_simp; all_goals (try omega)
            (try simp only [Act.put, List.getElem_toArray, List.getElem_cons_zero, List.getElem_cons_succ, List.setIfInBounds_toArray, List.set_cons_zero, List.set_cons_succ])
            refine wpAnyH_take (i := 8) (v := (.agg #[.int .i64 O1, .int .i64 O2])) rfl (by as_aux_lemma => kernel_rfl) (by as_aux_lemma => kernel_rfl) (by as_aux_lemma => kernel_rfl) (fun _ _ _ h => nomatch h.1) (Or.inl ⟨by kernel_rfl, ?_⟩) hS ?_
            · intro w hSw; (try dsimp only at hSw); obtain ⟨hSb, hl0, hl1, hl2, hl3, hl4, hl5, hl6, hl7⟩ := hSw; go_simp; all_goals (try omega)
            (try simp only [Act.put, List.getElem_toArray, List.getElem_cons_zero, List.getElem_cons_succ, List.setIfInBounds_toArray, List.set_cons_zero, List.set_cons_succ])
            refine wpAnyH_take (i := 11) (v := (.agg #[.int .i64 L, .int .i64 R])) rfl (by as_aux_lemma => kernel_rfl) (by as_aux_lemma => kernel_rfl) (by as_aux_lemma => kernel_rfl) (fun _ _ _ h => nomatch h.1) (Or.inl ⟨by kernel_rfl, ?_⟩) hS ?_
            · intro w hSw; (try dsimp only at hSw); obtain ⟨hSb, hl0, hl1, hl2, hl3, hl4, hl5, hl6, hl7⟩ := hSw; go_simp; all_goals (try omega)
            (try simp only [Act.put, List.getElem_toArray, List.getElem_cons_zero, List.getElem_cons_succ, List.setIfInBounds_toArray, List.set_cons_zero, List.set_cons_succ])
            refine wpAnyH_ready (rs := [9]) (by as_aux_lemma => kernel_rfl) (by simp) ?_
            refine AllReadyH.cons rfl (fun K hK => ?_) AllReadyH.nil
            go_simp
            refine Calls.mono (HMB.out _ ry.read) ?_
            rintro e w9 ⟨rfl, hc⟩
            have s9 : D7.heap.size ≤ w9.heap.size := hc.size
            have bq := hc
            replace cF0 := cell_later bq cF0
            replace zF := Nat.lt_of_lt_of_le zF bq.size
            replace cL0 := cell_later bq cL0
            replace cL1 := cell_later bq cL1
            replace cL2 := cell_later bq cL2
            replace zL := Nat.lt_of_lt_of_le zL bq.size
            replace cP0 := cell_later bq cP0
            replace cP1 := cell_later bq cP1
            replace zP := Nat.lt_of_lt_of_le zP bq.size
            replace cA0 := cell_later bq cA0
            replace cA1 := cell_later bq cA1
            replace cA2 := cell_later bq cA2
            replace zA := Nat.lt_of_lt_of_le zA bq.size
            replace cE0 := cell_later bq cE0
            replace cE1 := cell_later bq cE1
            replace cE2 := cell_later bq cE2
            replace zE := Nat.lt_of_lt_of_le zE bq.size
            replace cZ0 := cell_later bq cZ0
            replace cZ1 := cell_later bq cZ1
            replace cZ2 := cell_later bq cZ2
            replace zZ := Nat.lt_of_lt_of_le zZ bq.size
            replace cG0 := cell_later bq cG0
            replace cG1 := cell_later bq cG1
            replace cG2 := cell_later bq cG2
            replace zG := Nat.lt_of_lt_of_le zG bq.size
            replace cO0 := cell_later bq cO0
            replace cO1 := cell_later bq cO1
            replace cO2 := cell_later bq cO2
            replace zO := Nat.lt_of_lt_of_le zO bq.size
            replace ry := ry.below bq
            replace hb := hb.trans (bq.mono hb.size)
            clear hc bq
            refine hK.out _ _ (⟨hb, cF0, cL0, cL1, cL2, cO1, cO2, cP0, cP1⟩) (fun hS => ?_)
            clear hK K
            (try simp only [Act.put, List.getElem_toArray, List.getElem_cons_zero, List.getElem_cons_succ, List.setIfInBounds_toArray, List.set_cons_zero, List.set_cons_succ])
            refine wpAnyH_take (i := 10) (v := (.agg #[.int .i64 L, .int .i64 R])) rfl (by as_aux_lemma => kernel_rfl) (by as_aux_lemma => kernel_rfl) (by as_aux_lemma => kernel_rfl) (fun _ _ _ h => nomatch h.1) (Or.inl ⟨by kernel_rfl, ?_⟩) hS ?_
            · intro w hSw; (try dsimp only at hSw); go_simp; all_goals (try omega)
            (try simp only [Act.put, List.getElem_toArray, List.getElem_cons_zero, List.getElem_cons_succ, List.setIfInBounds_toArray, List.set_cons_zero, List.set_cons_succ])
            refine wpAnyH_take (i := 12) (v := (.bool false)) rfl (by as_aux_lemma => kernel_rfl) (by as_aux_lemma => kernel_rfl) (by as_aux_lemma => kernel_rfl) (fun _ _ _ h => nomatch h.1) (Or.inl ⟨by kernel_rfl, ?_⟩) hS ?_
            · intro w hSw; (try dsimp only at hSw); go_simp; all_goals (try omega)
            (try simp only [Act.put, List.getElem_toArray, List.getElem_cons_zero, List.getElem_cons_succ, List.setIfInBounds_toArray, List.set_cons_zero, List.set_cons_succ])
            refine wpAnyH_take (i := 13) (v := (.bool false)) rfl (by as_aux_lemma => kernel_rfl) (by as_aux_lemma => kernel_rfl) (by as_aux_lemma => kernel_rfl) (fun _ _ _ h => nomatch h.1) (Or.inl ⟨by kernel_rfl, ?_⟩) hS ?_
            · intro w hSw; (try dsimp only at hSw); go_simp; all_goals (try omega)
            (try simp only [Act.put, List.getElem_toArray, List.getElem_cons_zero, List.getElem_cons_succ, List.setIfInBounds_toArray, List.set_cons_zero, List.set_cons_succ])
            refine wpAnyH_done (by kernel_rfl) ?_ _
            refine ⟨rfl, (.pointer (some ⟨w6.heap.size, 1, none⟩)), (.agg #[.int .i64 O1, .int .i64 O2]), (.agg #[.int .i64 L, .int .i64 R]), (.bool true), (.bool true), (.agg #[.slice ay ys.length ky]), (.agg #[.int .i64 W, .bool Q, .int .i64 S]), (.pointer (some ⟨w6.heap.size, 1, none⟩)), (.agg #[.int .i64 O1, .int .i64 O2]), (.agg #[.int .i64 0, .int .i64 L, .int .i64 R]), (.agg #[.int .i64 L, .int .i64 R]), (.agg #[.int .i64 L, .int .i64 R]), (.bool false), ?_, hb, ry, cF0, zF, cL0, cL1, cL2, zL, cP0, cP1, zP, cA0, cA1, cA2, zA, cE0, cE1, cE2, zE, cZ0, cZ1, cZ2, zZ, cG0, cG1, cG2, zG, cO0, cO1, cO2, zO⟩
            (try simp only [Act.put, List.getElem_toArray, List.getElem_cons_zero, List.getElem_cons_succ, List.setIfInBounds_toArray, List.set_cons_zero, List.set_cons_succ])
        · skip
          rintro a' w27 ⟨x71, x72, x73, x74, x75, x76, x77, x78, x79, x80, x81, x82, x83, rfl, hb, ry, cF0, zF, cL0, cL1, cL2, zL, cP0, cP1, zP, cA0, cA1, cA2, zA, cE0, cE1, cE2, zE, cZ0, cZ1, cZ2, zZ, cG0, cG1, cG2, zG, cO0, cO1, cO2, zO⟩
          clear m6 MB
          simp only [Act.put, List.getElem_toArray, List.getElem_cons_zero, List.getElem_cons_succ, List.setIfInBounds_toArray, List.set_cons_zero, List.set_cons_succ]
          go_wp2_with fail
          refine Calls.mono (HIT.out _ hb) ?_
          rintro e w28 ⟨rfl, hc⟩
          have s28 : w27.heap.size ≤ w28.heap.size := hc.size
          have bq := hc
          replace cF0 := cell_later bq cF0
          replace zF := Nat.lt_of_lt_of_le zF bq.size
          replace cL0 := cell_later bq cL0
          replace cL1 := cell_later bq cL1
          replace cL2 := cell_later bq cL2
          replace zL := Nat.lt_of_lt_of_le zL bq.size
          replace cP0 := cell_later bq cP0
          replace cP1 := cell_later bq cP1
          replace zP := Nat.lt_of_lt_of_le zP bq.size
          replace cA0 := cell_later bq cA0
          replace cA1 := cell_later bq cA1
          replace cA2 := cell_later bq cA2
          replace zA := Nat.lt_of_lt_of_le zA bq.size
          replace cE0 := cell_later bq cE0
          replace cE1 := cell_later bq cE1
          replace cE2 := cell_later bq cE2
          replace zE := Nat.lt_of_lt_of_le zE bq.size
          replace cZ0 := cell_later bq cZ0
          replace cZ1 := cell_later bq cZ1
          replace cZ2 := cell_later bq cZ2
          replace zZ := Nat.lt_of_lt_of_le zZ bq.size
          replace cG0 := cell_later bq cG0
          replace cG1 := cell_later bq cG1
          replace cG2 := cell_later bq cG2
          replace zG := Nat.lt_of_lt_of_le zG bq.size
          replace cO0 := cell_later bq cO0
          replace cO1 := cell_later bq cO1
          replace cO2 := cell_later bq cO2
          replace zO := Nat.lt_of_lt_of_le zO bq.size
          replace ry := ry.below bq
          replace hb := hb.trans (bq.mono hb.size)
          clear hc bq
          go_wp2_with fail
          have bp : ∀ o0, Below w28.heap.size w28 (w28.alloc o0) := fun o0 => (Below.refl _ _).alloc (Nat.le_refl _) o0
          have hbt : ∀ o0, Below w.heap.size w (w28.alloc o0) := fun o0 => hb.trans ((bp o0).mono hb.size)
          obtain ⟨w29, hw29⟩ : ∃ x, (w28.alloc (.cells #[.int .i64 c, .string T] 36)) = x := ⟨_, rfl⟩
          have hc : Below ((w28.alloc (.cells #[.int .i64 c, .string T] 36))).heap.size ((w28.alloc (.cells #[.int .i64 c, .string T] 36))) w29 := hw29 ▸ Below.refl _ _
          have s29 : w28.heap.size + 1 ≤ w29.heap.size := by have := hc.size; simp at this; omega
          have bq : Below w28.heap.size w28 w29 := (bp _).trans (hc.mono (bp _).size)
          replace cF0 := cell_later bq cF0
          replace zF := Nat.lt_of_lt_of_le zF bq.size
          replace cL0 := cell_later bq cL0
          replace cL1 := cell_later bq cL1
          replace cL2 := cell_later bq cL2
          replace zL := Nat.lt_of_lt_of_le zL bq.size
          replace cP0 := cell_later bq cP0
          replace cP1 := cell_later bq cP1
          replace zP := Nat.lt_of_lt_of_le zP bq.size
          replace cA0 := cell_later bq cA0
          replace cA1 := cell_later bq cA1
          replace cA2 := cell_later bq cA2
          replace zA := Nat.lt_of_lt_of_le zA bq.size
          replace cE0 := cell_later bq cE0
          replace cE1 := cell_later bq cE1
          replace cE2 := cell_later bq cE2
          replace zE := Nat.lt_of_lt_of_le zE bq.size
          replace cZ0 := cell_later bq cZ0
          replace cZ1 := cell_later bq cZ1
          replace cZ2 := cell_later bq cZ2
          replace zZ := Nat.lt_of_lt_of_le zZ bq.size
          replace cG0 := cell_later bq cG0
          replace cG1 := cell_later bq cG1
          replace cG2 := cell_later bq cG2
          replace zG := Nat.lt_of_lt_of_le zG bq.size
          replace cO0 := cell_later bq cO0
          replace cO1 := cell_later bq cO1
          replace cO2 := cell_later bq cO2
          replace zO := Nat.lt_of_lt_of_le zO bq.size
          have cT0 : w29.cell? ⟨w28.heap.size, 0, none⟩ = some (.int .i64 c) := cell_later hc (by simp [go_sem])
          have cT1 : w29.cell? ⟨w28.heap.size, 1, none⟩ = some (.string T) := cell_later hc (by simp [go_sem])
          have zT : w28.heap.size < w29.heap.size := by omega
          replace ry := ry.below bq
          replace hb := hb.trans (bq.mono hb.size)
          clear hc bq bp hbt
          rw [hw29]
          clear hw29
          obtain ⟨cb, hcb⟩ : ∃ cb, (c != 0) = cb := ⟨_, rfl⟩
          have hTe0 : cb = false → T.toList.isEmpty = false := fun h => HTT.out.resolve_left (fun h2 => by rw [← hcb] at h; exact h2 (by simpa using h))
          have HTE := hid hTe0
          clear HTT hTe0
          have bd : Below w29.heap.size w29 w29.drew := (Below.refl _ _).drew
          refine wp_region_held_drew (S := fun w' => Below w.heap.size w w' ∧ w'.cell? ⟨w2.heap.size, 1, none⟩ = some (.int .i64 A1) ∧ w'.cell? ⟨w2.heap.size, 2, none⟩ = some (.int .i64 A2) ∧ w'.cell? ⟨w3.heap.size, 1, none⟩ = some (.int .i64 E1) ∧ w'.cell? ⟨w3.heap.size, 2, none⟩ = some (.int .i64 E2) ∧ w'.cell? ⟨w1.heap.size, 0, none⟩ = some (.slice ay ys.length ky) ∧ w'.cell? ⟨w5.heap.size, 0, none⟩ = some (.int .i64 0) ∧ w'.cell? ⟨w1.heap.size + 1, 0, none⟩ = some (.int .i64 W) ∧ w'.cell? ⟨w1.heap.size + 1, 1, none⟩ = some (.bool Q) ∧ w'.cell? ⟨w1.heap.size + 1, 2, none⟩ = some (.int .i64 S) ∧ w'.cell? ⟨w1.heap.size + 1 + 1, 0, none⟩ = some (.int .i64 L) ∧ w'.cell? ⟨w1.heap.size + 1 + 1, 1, none⟩ = some (.int .i64 R) ∧ w'.cell? ⟨w28.heap.size, 0, none⟩ = some (.int .i64 c) ∧ w'.cell? ⟨w28.heap.size, 1, none⟩ = some (.string T) ∧ w'.cell? ⟨w4.heap.size, 1, none⟩ = some (.int .i64 0) ∧ w'.cell? ⟨w4.heap.size, 2, none⟩ = some (.int .i64 0)) (by kernel_rfl) ⟨(hb.trans (bd.mono hb.size)), cell_later bd cA1, cell_later bd cA2, cell_later bd cE1, cell_later bd cE2, cell_later bd cF0, cell_later bd cG0, cell_later bd cL0, cell_later bd cL1, cell_later bd cL2, cell_later bd cP0, cell_later bd cP1, cell_later bd cT0, cell_later bd cT1, cell_later bd cZ1, cell_later bd cZ2⟩ (fun hS => ?_)
          obtain ⟨D29, hD⟩ : ∃ D, w29.drew = D := ⟨_, rfl⟩
          rw [hD] at hS bd ⊢
          have hc := bd
          clear hD bd
          have s30 : w29.heap.size ≤ D29.heap.size := hc.size
          have bq := hc
          replace cF0 := cell_later bq cF0
          replace zF := Nat.lt_of_lt_of_le zF bq.size
          replace cL0 := cell_later bq cL0
          replace cL1 := cell_later bq cL1
          replace cL2 := cell_later bq cL2
          replace zL := Nat.lt_of_lt_of_le zL bq.size
          replace cP0 := cell_later bq cP0
          replace cP1 := cell_later bq cP1
          replace zP := Nat.lt_of_lt_of_le zP bq.size
          replace cA0 := cell_later bq cA0
          replace cA1 := cell_later bq cA1
          replace cA2 := cell_later bq cA2
          replace zA := Nat.lt_of_lt_of_le zA bq.size
          replace cE0 := cell_later bq cE0
          replace cE1 := cell_later bq cE1
          replace cE2 := cell_later bq cE2
          replace zE := Nat.lt_of_lt_of_le zE bq.size
          replace cZ0 := cell_later bq cZ0
          replace cZ1 := cell_later bq cZ1
          replace cZ2 := cell_later bq cZ2
          replace zZ := Nat.lt_of_lt_of_le zZ bq.size
          replace cG0 := cell_later bq cG0
          replace cG1 := cell_later bq cG1
          replace cG2 := cell_later bq cG2
          replace zG := Nat.lt_of_lt_of_le zG bq.size
          replace cO0 := cell_later bq cO0
          replace cO1 := cell_later bq cO1
          replace cO2 := cell_later bq cO2
          replace zO := Nat.lt_of_lt_of_le zO bq.size
          replace cT0 := cell_later bq cT0
          replace cT1 := cell_later bq cT1
          replace zT := Nat.lt_of_lt_of_le zT bq.size
          replace ry := ry.below bq
          replace hb := hb.trans (bq.mono hb.size)
          clear hc bq
          refine wpAnyH_take (i := 0) (v := (.agg #[.slice ay ys.length ky])) rfl (by as_aux_lemma => kernel_rfl) (by as_aux_lemma => kernel_rfl) (by as_aux_lemma => kernel_rfl) (fun _ _ _ h => h) (Or.inl ⟨by kernel_rfl, ?_⟩) hS ?_
          · intro w hSw; (try dsimp only at hSw); obtain ⟨hSb, hl0, hl1, hl2, hl3, hl4, hl5, hl6, hl7, hl8, hl9, hl10, hl11, hl12, hl13, hl14⟩ := hSw; go_simp; all_goals (try omega)
          (try simp only [Act.put, List.getElem_toArray, List.getElem_cons_zero, List.getElem_cons_succ, List.setIfInBounds_toArray, List.set_cons_zero, List.set_cons_succ])
          refine wpAnyH_take (i := 1) (v := (.agg #[.int .i64 W, .bool Q, .int .i64 S])) rfl (by as_aux_lemma => kernel_rfl) (by as_aux_lemma => kernel_rfl) (by as_aux_lemma => kernel_rfl) (fun _ _ _ h => h) (Or.inl ⟨by kernel_rfl, ?_⟩) hS ?_
          · intro w hSw; (try dsimp only at hSw); obtain ⟨hSb, hl0, hl1, hl2, hl3, hl4, hl5, hl6, hl7, hl8, hl9, hl10, hl11, hl12, hl13, hl14⟩ := hSw; go_simp; all_goals (try omega)
          (try simp only [Act.put, List.getElem_toArray, List.getElem_cons_zero, List.getElem_cons_succ, List.setIfInBounds_toArray, List.set_cons_zero, List.set_cons_succ])
          refine wpAnyH_take (i := 2) (v := (.pointer (some ⟨w2.heap.size, 1, none⟩))) rfl (by as_aux_lemma => kernel_rfl) (by as_aux_lemma => kernel_rfl) (by as_aux_lemma => kernel_rfl) (fun _ _ _ h => h) (Or.inl ⟨by kernel_rfl, ?_⟩) hS ?_
          · intro w hSw; (try dsimp only at hSw); go_simp; all_goals (try omega)
          (try simp only [Act.put, List.getElem_toArray, List.getElem_cons_zero, List.getElem_cons_succ, List.setIfInBounds_toArray, List.set_cons_zero, List.set_cons_succ])
          refine wpAnyH_take (i := 3) (v := (.agg #[.int .i64 A1, .int .i64 A2])) rfl (by as_aux_lemma => kernel_rfl) (by as_aux_lemma => kernel_rfl) (by as_aux_lemma => kernel_rfl) (fun _ _ _ h => h) (Or.inl ⟨by kernel_rfl, ?_⟩) hS ?_
          · intro w hSw; (try dsimp only at hSw); obtain ⟨hSb, hl0, hl1, hl2, hl3, hl4, hl5, hl6, hl7, hl8, hl9, hl10, hl11, hl12, hl13, hl14⟩ := hSw; go_simp; all_goals (try omega)
          (try simp only [Act.put, List.getElem_toArray, List.getElem_cons_zero, List.getElem_cons_succ, List.setIfInBounds_toArray, List.set_cons_zero, List.set_cons_succ])
          refine wpAnyH_ready (rs := [4]) (by as_aux_lemma => kernel_rfl) (by simp) ?_
          refine AllReadyH.cons rfl (fun K hK => ?_) AllReadyH.nil
          go_simp
          refine Calls.mono (HFA.out _ ry.read) ?_
          rintro e w31 ⟨rfl, hc⟩
          have s31 : D29.heap.size ≤ w31.heap.size := hc.size
          have bq := hc
          replace cF0 := cell_later bq cF0
          replace zF := Nat.lt_of_lt_of_le zF bq.size
          replace cL0 := cell_later bq cL0
          replace cL1 := cell_later bq cL1
          replace cL2 := cell_later bq cL2
          replace zL := Nat.lt_of_lt_of_le zL bq.size
          replace cP0 := cell_later bq cP0
          replace cP1 := cell_later bq cP1
          replace zP := Nat.lt_of_lt_of_le zP bq.size
          replace cA0 := cell_later bq cA0
          replace cA1 := cell_later bq cA1
          replace cA2 := cell_later bq cA2
          replace zA := Nat.lt_of_lt_of_le zA bq.size
          replace cE0 := cell_later bq cE0
          replace cE1 := cell_later bq cE1
          replace cE2 := cell_later bq cE2
          replace zE := Nat.lt_of_lt_of_le zE bq.size
          replace cZ0 := cell_later bq cZ0
          replace cZ1 := cell_later bq cZ1
          replace cZ2 := cell_later bq cZ2
          replace zZ := Nat.lt_of_lt_of_le zZ bq.size
          replace cG0 := cell_later bq cG0
          replace cG1 := cell_later bq cG1
          replace cG2 := cell_later bq cG2
          replace zG := Nat.lt_of_lt_of_le zG bq.size
          replace cO0 := cell_later bq cO0
          replace cO1 := cell_later bq cO1
          replace cO2 := cell_later bq cO2
          replace zO := Nat.lt_of_lt_of_le zO bq.size
          replace cT0 := cell_later bq cT0
          replace cT1 := cell_later bq cT1
          replace zT := Nat.lt_of_lt_of_le zT bq.size
          replace ry := ry.below bq
          replace hb := hb.trans (bq.mono hb.size)
          clear hc bq
          refine hK.out _ _ (⟨hb, cA1, cA2, cE1, cE2, cF0, cG0, cL0, cL1, cL2, cP0, cP1, cT0, cT1, cZ1, cZ2⟩) (fun hS => ?_)
          clear hK K
          (try simp only [Act.put, List.getElem_toArray, List.getElem_cons_zero, List.getElem_cons_succ, List.setIfInBounds_toArray, List.set_cons_zero, List.set_cons_succ])
          refine wpAnyH_take (i := 5) (v := (.bool true)) rfl (by as_aux_lemma => kernel_rfl) (by as_aux_lemma => kernel_rfl) (by as_aux_lemma => kernel_rfl) (fun _ _ _ h => h) (Or.inl ⟨by kernel_rfl, ?_⟩) hS ?_
          · intro w hSw; (try dsimp only at hSw); go_simp; all_goals (try omega)
          (try simp only [Act.put, List.getElem_toArray, List.getElem_cons_zero, List.getElem_cons_succ, List.setIfInBounds_toArray, List.set_cons_zero, List.set_cons_succ])
          refine wpAnyH_take (i := 6) (v := (.bool true)) rfl (by as_aux_lemma => kernel_rfl) (by as_aux_lemma => kernel_rfl) (by as_aux_lemma => kernel_rfl) (fun _ _ _ h => h) (Or.inl ⟨by kernel_rfl, ?_⟩) hS ?_
          · intro w hSw; (try dsimp only at hSw); go_simp; all_goals (try omega)
          (try simp only [Act.put, List.getElem_toArray, List.getElem_cons_zero, List.getElem_cons_succ, List.setIfInBounds_toArray, List.set_cons_zero, List.set_cons_succ])
          refine wpAnyH_take (i := 7) (v := (.bool false)) rfl (by as_aux_lemma => kernel_rfl) (by as_aux_lemma => kernel_rfl) (by as_aux_lemma => kernel_rfl) (fun _ _ _ h => h) (Or.inl ⟨by kernel_rfl, ?_⟩) hS ?_
          · intro w hSw; (try dsimp only at hSw); go_simp; all_goals (try omega)
          (try simp only [Act.put, List.getElem_toArray, List.getElem_cons_zero, List.getElem_cons_succ, List.setIfInBounds_toArray, List.set_cons_zero, List.set_cons_succ])
          refine wpAnyH_take (i := 8) (v := (.bool true)) rfl (by as_aux_lemma => kernel_rfl) (by as_aux_lemma => kernel_rfl) (by as_aux_lemma => kernel_rfl) (fun _ _ _ h => h) (Or.inl ⟨by kernel_rfl, ?_⟩) hS ?_
          · intro w hSw; (try dsimp only at hSw); go_simp; all_goals (try omega)
          (try simp only [Act.put, List.getElem_toArray, List.getElem_cons_zero, List.getElem_cons_succ, List.setIfInBounds_toArray, List.set_cons_zero, List.set_cons_succ])
          refine wpAnyH_take (i := 9) (v := (.bool true)) rfl (by as_aux_lemma => kernel_rfl) (by as_aux_lemma => kernel_rfl) (by as_aux_lemma => kernel_rfl) (fun _ _ _ h => h) (Or.inl ⟨by kernel_rfl, ?_⟩) hS ?_
          · intro w hSw; (try dsimp only at hSw); go_simp; all_goals (try omega)
          (try simp only [Act.put, List.getElem_toArray, List.getElem_cons_zero, List.getElem_cons_succ, List.setIfInBounds_toArray, List.set_cons_zero, List.set_cons_succ])
          refine wpAnyH_take (i := 10) (v := undef) rfl (by as_aux_lemma => kernel_rfl) (by as_aux_lemma => kernel_rfl) (by as_aux_lemma => kernel_rfl) (fun _ _ _ h => h) (Or.inr ⟨by kernel_rfl, rfl⟩) hS ?_
          (try simp only [Act.put, List.getElem_toArray, List.getElem_cons_zero, List.getElem_cons_succ, List.setIfInBounds_toArray, List.set_cons_zero, List.set_cons_succ])
          refine wpAnyH_take (i := 11) (v := undef) rfl (by as_aux_lemma => kernel_rfl) (by as_aux_lemma => kernel_rfl) (by as_aux_lemma => kernel_rfl) (fun _ _ _ h => h) (Or.inr ⟨by kernel_rfl, rfl⟩) hS ?_
          (try simp only [Act.put, List.getElem_toArray, List.getElem_cons_zero, List.getElem_cons_succ, List.setIfInBounds_toArray, List.set_cons_zero, List.set_cons_succ])
          refine wpAnyH_take (i := 12) (v := undef) rfl (by as_aux_lemma => kernel_rfl) (by as_aux_lemma => kernel_rfl) (by as_aux_lemma => kernel_rfl) (fun _ _ _ h => h) (Or.inr ⟨by kernel_rfl, rfl⟩) hS ?_
          (try simp only [Act.put, List.getElem_toArray, List.getElem_cons_zero, List.getElem_cons_succ, List.setIfInBounds_toArray, List.set_cons_zero, List.set_cons_succ])
          refine wpAnyH_take (i := 13) (v := undef) rfl (by as_aux_lemma => kernel_rfl) (by as_aux_lemma => kernel_rfl) (by as_aux_lemma => kernel_rfl) (fun _ _ _ h => h) (Or.inr ⟨by kernel_rfl, rfl⟩) hS ?_
          (try simp only [Act.put, List.getElem_toArray, List.getElem_cons_zero, List.getElem_cons_succ, List.setIfInBounds_toArray, List.set_cons_zero, List.set_cons_succ])
          refine wpAnyH_take (i := 14) (v := (.bool true)) rfl (by as_aux_lemma => kernel_rfl) (by as_aux_lemma => kernel_rfl) (by as_aux_lemma => kernel_rfl) (fun _ _ _ h => h) (Or.inl ⟨by kernel_rfl, ?_⟩) hS ?_
          · intro w hSw; (try dsimp only at hSw); go_simp; all_goals (try omega)
          (try simp only [Act.put, List.getElem_toArray, List.getElem_cons_zero, List.getElem_cons_succ, List.setIfInBounds_toArray, List.set_cons_zero, List.set_cons_succ])
          refine wpAnyH_take (i := 15) (v := (.bool true)) rfl (by as_aux_lemma => kernel_rfl) (by as_aux_lemma => kernel_rfl) (by as_aux_lemma => kernel_rfl) (fun _ _ _ h => h) (Or.inl ⟨by kernel_rfl, ?_⟩) hS ?_
          · intro w hSw; (try dsimp only at hSw); go_simp; all_goals (try omega)
          (try simp only [Act.put, List.getElem_toArray, List.getElem_cons_zero, List.getElem_cons_succ, List.setIfInBounds_toArray, List.set_cons_zero, List.set_cons_succ])
          refine wpAnyH_take (i := 16) (v := (.bool true)) rfl (by as_aux_lemma => kernel_rfl) (by as_aux_lemma => kernel_rfl) (by as_aux_lemma => kernel_rfl) (fun _ _ _ h => h) (Or.inl ⟨by kernel_rfl, ?_⟩) hS ?_
          · intro w hSw; (try dsimp only at hSw); go_simp; all_goals (try omega)
          (try simp only [Act.put, List.getElem_toArray, List.getElem_cons_zero, List.getElem_cons_succ, List.setIfInBounds_toArray, List.set_cons_zero, List.set_cons_succ])
          refine wpAnyH_take (i := 17) (v := (.pointer (some ⟨w5.heap.size, 0, none⟩))) rfl (by as_aux_lemma => kernel_rfl) (by as_aux_lemma => kernel_rfl) (by as_aux_lemma => kernel_rfl) (fun _ _ _ h => h) (Or.inl ⟨by kernel_rfl, ?_⟩) hS ?_
          · intro w hSw; (try dsimp only at hSw); go_simp; all_goals (try omega)
          (try simp only [Act.put, List.getElem_toArray, List.getElem_cons_zero, List.getElem_cons_succ, List.setIfInBounds_toArray, List.set_cons_zero, List.set_cons_succ])
          refine wpAnyH_take (i := 18) (v := (.int .i64 0)) rfl (by as_aux_lemma => kernel_rfl) (by as_aux_lemma => kernel_rfl) (by as_aux_lemma => kernel_rfl) (fun _ _ _ h => h) (Or.inl ⟨by kernel_rfl, ?_⟩) hS ?_
          · intro w hSw; (try dsimp only at hSw); obtain ⟨hSb, hl0, hl1, hl2, hl3, hl4, hl5, hl6, hl7, hl8, hl9, hl10, hl11, hl12, hl13, hl14⟩ := hSw; go_simp; all_goals (try omega)
          (try simp only [Act.put, List.getElem_toArray, List.getElem_cons_zero, List.getElem_cons_succ, List.setIfInBounds_toArray, List.set_cons_zero, List.set_cons_succ])
          refine wpAnyH_take (i := 19) (v := (.bool true)) rfl (by as_aux_lemma => kernel_rfl) (by as_aux_lemma => kernel_rfl) (by as_aux_lemma => kernel_rfl) (fun _ _ _ h => h) (Or.inl ⟨by kernel_rfl, ?_⟩) hS ?_
          · intro w hSw; (try dsimp only at hSw); go_simp; all_goals (try omega)
          (try simp only [Act.put, List.getElem_toArray, List.getElem_cons_zero, List.getElem_cons_succ, List.setIfInBounds_toArray, List.set_cons_zero, List.set_cons_succ])
          refine wpAnyH_take (i := 20) (v := (.bool true)) rfl (by as_aux_lemma => kernel_rfl) (by as_aux_lemma => kernel_rfl) (by as_aux_lemma => kernel_rfl) (fun _ _ _ h => h) (Or.inl ⟨by kernel_rfl, ?_⟩) hS ?_
          · intro w hSw; (try dsimp only at hSw); go_simp; all_goals (try omega)
          (try simp only [Act.put, List.getElem_toArray, List.getElem_cons_zero, List.getElem_cons_succ, List.setIfInBounds_toArray, List.set_cons_zero, List.set_cons_succ])
          refine wpAnyH_take (i := 21) (v := (.bool true)) rfl (by as_aux_lemma => kernel_rfl) (by as_aux_lemma => kernel_rfl) (by as_aux_lemma => kernel_rfl) (fun _ _ _ h => h) (Or.inl ⟨by kernel_rfl, ?_⟩) hS ?_
          · intro w hSw; (try dsimp only at hSw); go_simp; all_goals (try omega)
          (try simp only [Act.put, List.getElem_toArray, List.getElem_cons_zero, List.getElem_cons_succ, List.setIfInBounds_toArray, List.set_cons_zero, List.set_cons_succ])
          refine wpAnyH_take (i := 22) (v := (.pointer (some ⟨w4.heap.size, 1, none⟩))) rfl (by as_aux_lemma => kernel_rfl) (by as_aux_lemma => kernel_rfl) (by as_aux_lemma => kernel_rfl) (fun _ _ _ h => h) (Or.inl ⟨by kernel_rfl, ?_⟩) hS ?_
          · intro w hSw; (try dsimp only at hSw); go_simp; all_goals (try omega)
          (try simp only [Act.put, List.getElem_toArray, List.getElem_cons_zero, List.getElem_cons_succ, List.setIfInBounds_toArray, List.set_cons_zero, List.set_cons_succ])
          refine wpAnyH_take (i := 23) (v := (.agg #[.int .i64 0, .int .i64 0])) rfl (by as_aux_lemma => kernel_rfl) (by as_aux_lemma => kernel_rfl) (by as_aux_lemma => kernel_rfl) (fun _ _ _ h => h) (Or.inl ⟨by kernel_rfl, ?_⟩) hS ?_
          · intro w hSw; (try dsimp only at hSw); obtain ⟨hSb, hl0, hl1, hl2, hl3, hl4, hl5, hl6, hl7, hl8, hl9, hl10, hl11, hl12, hl13, hl14⟩ := hSw; go_simp; all_goals (try omega)
          (try simp only [Act.put, List.getElem_toArray, List.getElem_cons_zero, List.getElem_cons_succ, List.setIfInBounds_toArray, List.set_cons_zero, List.set_cons_succ])
          refine wpAnyH_take (i := 24) (v := (.agg #[.int .i64 0, .int .i64 0])) rfl (by as_aux_lemma => kernel_rfl) (by as_aux_lemma => kernel_rfl) (by as_aux_lemma => kernel_rfl) (fun _ _ _ h => h) (Or.inl ⟨by kernel_rfl, ?_⟩) hS ?_
          · intro w hSw; (try dsimp only at hSw); go_simp; all_goals (try omega)
          (try simp only [Act.put, List.getElem_toArray, List.getElem_cons_zero, List.getElem_cons_succ, List.setIfInBounds_toArray, List.set_cons_zero, List.set_cons_succ])
          refine wpAnyH_take (i := 25) (v := (.bool true)) rfl (by as_aux_lemma => kernel_rfl) (by as_aux_lemma => kernel_rfl) (by as_aux_lemma => kernel_rfl) (fun _ _ _ h => h) (Or.inl ⟨by kernel_rfl, ?_⟩) hS ?_
          · intro w hSw; (try dsimp only at hSw); go_simp; all_goals (try omega)
          (try simp only [Act.put, List.getElem_toArray, List.getElem_cons_zero, List.getElem_cons_succ, List.setIfInBounds_toArray, List.set_cons_zero, List.set_cons_succ])
          refine wpAnyH_take (i := 26) (v := (.bool true)) rfl (by as_aux_lemma => kernel_rfl) (by as_aux_lemma => kernel_rfl) (by as_aux_lemma => kernel_rfl) (fun _ _ _ h => h) (Or.inl ⟨by kernel_rfl, ?_⟩) hS ?_
          · intro w hSw; (try dsimp only at hSw); go_simp; all_goals (try omega)
          (try simp only [Act.put, List.getElem_toArray, List.getElem_cons_zero, List.getElem_cons_succ, List.setIfInBounds_toArray, List.set_cons_zero, List.set_cons_succ])
          refine wpAnyH_take (i := 27) (v := (.bool true)) rfl (by as_aux_lemma => kernel_rfl) (by as_aux_lemma => kernel_rfl) (by as_aux_lemma => kernel_rfl) (fun _ _ _ h => h) (Or.inl ⟨by kernel_rfl, ?_⟩) hS ?_
          · intro w hSw; (try dsimp only at hSw); go_simp; all_goals (try omega)
          (try simp only [Act.put, List.getElem_toArray, List.getElem_cons_zero, List.getElem_cons_succ, List.setIfInBounds_toArray, List.set_cons_zero, List.set_cons_succ])
          refine wpAnyH_take (i := 28) (v := (.agg #[.slice ay ys.length ky])) rfl (by as_aux_lemma => kernel_rfl) (by as_aux_lemma => kernel_rfl) (by as_aux_lemma => kernel_rfl) (fun _ _ _ h => h) (Or.inl ⟨by kernel_rfl, ?_⟩) hS ?_
          · intro w hSw; (try dsimp only at hSw); obtain ⟨hSb, hl0, hl1, hl2, hl3, hl4, hl5, hl6, hl7, hl8, hl9, hl10, hl11, hl12, hl13, hl14⟩ := hSw; go_simp; all_goals (try omega)
          (try simp only [Act.put, List.getElem_toArray, List.getElem_cons_zero, List.getElem_cons_succ, List.setIfInBounds_toArray, List.set_cons_zero, List.set_cons_succ])
          refine wpAnyH_take (i := 29) (v := (.agg #[.int .i64 W, .bool Q, .int .i64 S])) rfl (by as_aux_lemma => kernel_rfl) (by as_aux_lemma => kernel_rfl) (by as_aux_lemma => kernel_rfl) (fun _ _ _ h => h) (Or.inl ⟨by kernel_rfl, ?_⟩) hS ?_
          · intro w hSw; (try dsimp only at hSw); obtain ⟨hSb, hl0, hl1, hl2, hl3, hl4, hl5, hl6, hl7, hl8, hl9, hl10, hl11, hl12, hl13, hl14⟩ := hSw; go_simp; all_goals (try omega)
          (try simp only [Act.put, List.getElem_toArray, List.getElem_cons_zero, List.getElem_cons_succ, List.setIfInBounds_toArray, List.set_cons_zero, List.set_cons_succ])
          refine wpAnyH_take (i := 30) (v := (.pointer (some ⟨w3.heap.size, 1, none⟩))) rfl (by as_aux_lemma => kernel_rfl) (by as_aux_lemma => kernel_rfl) (by as_aux_lemma => kernel_rfl) (fun _ _ _ h => h) (Or.inl ⟨by kernel_rfl, ?_⟩) hS ?_
          · intro w hSw; (try dsimp only at hSw); go_simp; all_goals (try omega)
          (try simp only [Act.put, List.getElem_toArray, List.getElem_cons_zero, List.getElem_cons_succ, List.setIfInBounds_toArray, List.set_cons_zero, List.set_cons_succ])
          refine wpAnyH_take (i := 31) (v := (.agg #[.int .i64 E1, .int .i64 E2])) rfl (by as_aux_lemma => kernel_rfl) (by as_aux_lemma => kernel_rfl) (by as_aux_lemma => kernel_rfl) (fun _ _ _ h => h) (Or.inl ⟨by kernel_rfl, ?_⟩) hS ?_
          · intro w hSw; (try dsimp only at hSw); obtain ⟨hSb, hl0, hl1, hl2, hl3, hl4, hl5, hl6, hl7, hl8, hl9, hl10, hl11, hl12, hl13, hl14⟩ := hSw; go_simp; all_goals (try omega)
          (try simp only [Act.put, List.getElem_toArray, List.getElem_cons_zero, List.getElem_cons_succ, List.setIfInBounds_toArray, List.set_cons_zero, List.set_cons_succ])
          refine wpAnyH_ready (rs := [32]) (by as_aux_lemma => kernel_rfl) (by simp) ?_
          refine AllReadyH.cons rfl (fun K hK => ?_) AllReadyH.nil
          go_simp
          refine Calls.mono (HFE.out _ ry.read) ?_
          rintro e w32 ⟨rfl, hc⟩
          have s32 : w31.heap.size ≤ w32.heap.size := hc.size
          have bq := hc
          replace cF0 := cell_later bq cF0
          replace zF := Nat.lt_of_lt_of_le zF bq.size
          replace cL0 := cell_later bq cL0
          replace cL1 := cell_later bq cL1
          replace cL2 := cell_later bq cL2
          replace zL := Nat.lt_of_lt_of_le zL bq.size
          replace cP0 := cell_later bq cP0
          replace cP1 := cell_later bq cP1
          replace zP := Nat.lt_of_lt_of_le zP bq.size
          replace cA0 := cell_later bq cA0
          replace cA1 := cell_later bq cA1
          replace cA2 := cell_later bq cA2
          replace zA := Nat.lt_of_lt_of_le zA bq.size
          replace cE0 := cell_later bq cE0
          replace cE1 := cell_later bq cE1
          replace cE2 := cell_later bq cE2
          replace zE := Nat.lt_of_lt_of_le zE bq.size
          replace cZ0 := cell_later bq cZ0
          replace cZ1 := cell_later bq cZ1
          replace cZ2 := cell_later bq cZ2
          replace zZ := Nat.lt_of_lt_of_le zZ bq.size
          replace cG0 := cell_later bq cG0
          replace cG1 := cell_later bq cG1
          replace cG2 := cell_later bq cG2
          replace zG := Nat.lt_of_lt_of_le zG bq.size
          replace cO0 := cell_later bq cO0
          replace cO1 := cell_later bq cO1
          replace cO2 := cell_later bq cO2
          replace zO := Nat.lt_of_lt_of_le zO bq.size
          replace cT0 := cell_later bq cT0
          replace cT1 := cell_later bq cT1
          replace zT := Nat.lt_of_lt_of_le zT bq.size
          replace ry := ry.below bq
          replace hb := hb.trans (bq.mono hb.size)
          clear hc bq
          refine hK.out _ _ (⟨hb, cA1, cA2, cE1, cE2, cF0, cG0, cL0, cL1, cL2, cP0, cP1, cT0, cT1, cZ1, cZ2⟩) (fun hS => ?_)
          clear hK K
          (try simp only [Act.put, List.getElem_toArray, List.getElem_cons_zero, List.getElem_cons_succ, List.setIfInBounds_toArray, List.set_cons_zero, List.set_cons_succ])
          refine wpAnyH_take (i := 33) (v := (.bool true)) rfl (by as_aux_lemma => kernel_rfl) (by as_aux_lemma => kernel_rfl) (by as_aux_lemma => kernel_rfl) (fun _ _ _ h => h) (Or.inl ⟨by kernel_rfl, ?_⟩) hS ?_
          · intro w hSw; (try dsimp only at hSw); go_simp; all_goals (try omega)
          (try simp only [Act.put, List.getElem_toArray, List.getElem_cons_zero, List.getElem_cons_succ, List.setIfInBounds_toArray, List.set_cons_zero, List.set_cons_succ])
          refine wpAnyH_take (i := 34) (v := (.bool true)) rfl (by as_aux_lemma => kernel_rfl) (by as_aux_lemma => kernel_rfl) (by as_aux_lemma => kernel_rfl) (fun _ _ _ h => h) (Or.inl ⟨by kernel_rfl, ?_⟩) hS ?_
          · intro w hSw; (try dsimp only at hSw); go_simp; all_goals (try omega)
          (try simp only [Act.put, List.getElem_toArray, List.getElem_cons_zero, List.getElem_cons_succ, List.setIfInBounds_toArray, List.set_cons_zero, List.set_cons_succ])
          refine wpAnyH_take (i := 35) (v := (.bool true)) rfl (by as_aux_lemma => kernel_rfl) (by as_aux_lemma => kernel_rfl) (by as_aux_lemma => kernel_rfl) (fun _ _ _ h => h) (Or.inl ⟨by kernel_rfl, ?_⟩) hS ?_
          · intro w hSw; (try dsimp only at hSw); go_simp; all_goals (try omega)
          (try simp only [Act.put, List.getElem_toArray, List.getElem_cons_zero, List.getElem_cons_succ, List.setIfInBounds_toArray, List.set_cons_zero, List.set_cons_succ])
          refine wpAnyH_take (i := 36) (v := (.pointer (some ⟨w2.heap.size, 1, none⟩))) rfl (by as_aux_lemma => kernel_rfl) (by as_aux_lemma => kernel_rfl) (by as_aux_lemma => kernel_rfl) (fun _ _ _ h => h) (Or.inl ⟨by kernel_rfl, ?_⟩) hS ?_
          · intro w hSw; (try dsimp only at hSw); go_simp; all_goals (try omega)
          (try simp only [Act.put, List.getElem_toArray, List.getElem_cons_zero, List.getElem_cons_succ, List.setIfInBounds_toArray, List.set_cons_zero, List.set_cons_succ])
          refine wpAnyH_take (i := 37) (v := (.agg #[.int .i64 A1, .int .i64 A2])) rfl (by as_aux_lemma => kernel_rfl) (by as_aux_lemma => kernel_rfl) (by as_aux_lemma => kernel_rfl) (fun _ _ _ h => h) (Or.inl ⟨by kernel_rfl, ?_⟩) hS ?_
          · intro w hSw; (try dsimp only at hSw); obtain ⟨hSb, hl0, hl1, hl2, hl3, hl4, hl5, hl6, hl7, hl8, hl9, hl10, hl11, hl12, hl13, hl14⟩ := hSw; go_simp; all_goals (try omega)
          (try simp only [Act.put, List.getElem_toArray, List.getElem_cons_zero, List.getElem_cons_succ, List.setIfInBounds_toArray, List.set_cons_zero, List.set_cons_succ])
          refine wpAnyH_take (i := 38) (v := (.agg #[.slice ay ys.length ky])) rfl (by as_aux_lemma => kernel_rfl) (by as_aux_lemma => kernel_rfl) (by as_aux_lemma => kernel_rfl) (fun _ _ _ h => h) (Or.inl ⟨by kernel_rfl, ?_⟩) hS ?_
          · intro w hSw; (try dsimp only at hSw); obtain ⟨hSb, hl0, hl1, hl2, hl3, hl4, hl5, hl6, hl7, hl8, hl9, hl10, hl11, hl12, hl13, hl14⟩ := hSw; go_simp; all_goals (try omega)
          (try simp only [Act.put, List.getElem_toArray, List.getElem_cons_zero, List.getElem_cons_succ, List.setIfInBounds_toArray, List.set_cons_zero, List.set_cons_succ])
          refine wpAnyH_take (i := 39) (v := (.agg #[.int .i64 W, .bool Q, .int .i64 S])) rfl (by as_aux_lemma => kernel_rfl) (by as_aux_lemma => kernel_rfl) (by as_aux_lemma => kernel_rfl) (fun _ _ _ h => h) (Or.inl ⟨by kernel_rfl, ?_⟩) hS ?_
          · intro w hSw; (try dsimp only at hSw); obtain ⟨hSb, hl0, hl1, hl2, hl3, hl4, hl5, hl6, hl7, hl8, hl9, hl10, hl11, hl12, hl13, hl14⟩ := hSw; go_simp; all_goals (try omega)
          (try simp only [Act.put, List.getElem_toArray, List.getElem_cons_zero, List.getElem_cons_succ, List.setIfInBounds_toArray, List.set_cons_zero, List.set_cons_succ])
          refine wpAnyH_take (i := 40) (v := (.agg #[.int .i64 L, .int .i64 R])) rfl (by as_aux_lemma => kernel_rfl) (by as_aux_lemma => kernel_rfl) (by as_aux_lemma => kernel_rfl) (fun _ _ _ h => h) (Or.inl ⟨by kernel_rfl, ?_⟩) hS ?_
          · intro w hSw; (try dsimp only at hSw); obtain ⟨hSb, hl0, hl1, hl2, hl3, hl4, hl5, hl6, hl7, hl8, hl9, hl10, hl11, hl12, hl13, hl14⟩ := hSw; go_simp; all_goals (try omega)
          (try simp only [Act.put, List.getElem_toArray, List.getElem_cons_zero, List.getElem_cons_succ, List.setIfInBounds_toArray, List.set_cons_zero, List.set_cons_succ])
          refine wpAnyH_take (i := 41) (v := (.int .i64 M)) rfl (by as_aux_lemma => kernel_rfl) (by as_aux_lemma => kernel_rfl) (by as_aux_lemma => kernel_rfl) (fun _ _ _ h => h) (Or.inl ⟨by kernel_rfl, ?_⟩) hS ?_
          · intro w hSw; (try dsimp only at hSw); go_simp; all_goals (try omega)
          (try simp only [Act.put, List.getElem_toArray, List.getElem_cons_zero, List.getElem_cons_succ, List.setIfInBounds_toArray, List.set_cons_zero, List.set_cons_succ])
          refine wpAnyH_ready (rs := [42]) (by as_aux_lemma => kernel_rfl) (by simp) ?_
          refine AllReadyH.cons rfl (fun K hK => ?_) AllReadyH.nil
          go_simp
          refine Calls.mono (HSM.out _ ry.read) ?_
          rintro e w33 ⟨rfl, hc⟩
          have s33 : w32.heap.size ≤ w33.heap.size := hc.size
          have bq := hc
          replace cF0 := cell_later bq cF0
          replace zF := Nat.lt_of_lt_of_le zF bq.size
          replace cL0 := cell_later bq cL0
          replace cL1 := cell_later bq cL1
          replace cL2 := cell_later bq cL2
          replace zL := Nat.lt_of_lt_of_le zL bq.size
          replace cP0 := cell_later bq cP0
          replace cP1 := cell_later bq cP1
          replace zP := Nat.lt_of_lt_of_le zP bq.size
          replace cA0 := cell_later bq cA0
          replace cA1 := cell_later bq cA1
          replace cA2 := cell_later bq cA2
          replace zA := Nat.lt_of_lt_of_le zA bq.size
          replace cE0 := cell_later bq cE0
          replace cE1 := cell_later bq cE1
          replace cE2 := cell_later bq cE2
          replace zE := Nat.lt_of_lt_of_le zE bq.size
          replace cZ0 := cell_later bq cZ0
          replace cZ1 := cell_later bq cZ1
          replace cZ2 := cell_later bq cZ2
          replace zZ := Nat.lt_of_lt_of_le zZ bq.size
          replace cG0 := cell_later bq cG0
          replace cG1 := cell_later bq cG1
          replace cG2 := cell_later bq cG2
          replace zG := Nat.lt_of_lt_of_le zG bq.size
          replace cO0 := cell_later bq cO0
          replace cO1 := cell_later bq cO1
          replace cO2 := cell_later bq cO2
          replace zO := Nat.lt_of_lt_of_le zO bq.size
          replace cT0 := cell_later bq cT0
          replace cT1 := cell_later bq cT1
          replace zT := Nat.lt_of_lt_of_le zT bq.size
          replace ry := ry.below bq
          replace hb := hb.trans (bq.mono hb.size)
          clear hc bq
          refine hK.out _ _ (⟨hb, cA1, cA2, cE1, cE2, cF0, cG0, cL0, cL1, cL2, cP0, cP1, cT0, cT1, cZ1, cZ2⟩) (fun hS => ?_)
          clear hK K
          (try simp only [Act.put, List.getElem_toArray, List.getElem_cons_zero, List.getElem_cons_succ, List.setIfInBounds_toArray, List.set_cons_zero, List.set_cons_succ])
          refine wpAnyH_take (i := 43) (v := (.agg #[.int .i64 A1, .int .i64 A2])) rfl (by as_aux_lemma => kernel_rfl) (by as_aux_lemma => kernel_rfl) (by as_aux_lemma => kernel_rfl) (fun _ _ _ h => h) (Or.inl ⟨by kernel_rfl, ?_⟩) hS ?_
          · intro w hSw; (try dsimp only at hSw); go_simp; all_goals (try omega)
          (try simp only [Act.put, List.getElem_toArray, List.getElem_cons_zero, List.getElem_cons_succ, List.setIfInBounds_toArray, List.set_cons_zero, List.set_cons_succ])
          refine wpAnyH_take (i := 44) (v := (.bool true)) rfl (by as_aux_lemma => kernel_rfl) (by as_aux_lemma => kernel_rfl) (by as_aux_lemma => kernel_rfl) (fun _ _ _ h => h) (Or.inl ⟨by kernel_rfl, ?_⟩) hS ?_
          · intro w hSw; (try dsimp only at hSw); go_simp; all_goals (try omega)
          (try simp only [Act.put, List.getElem_toArray, List.getElem_cons_zero, List.getElem_cons_succ, List.setIfInBounds_toArray, List.set_cons_zero, List.set_cons_succ])
          refine wpAnyH_take (i := 45) (v := (.bool true)) rfl (by as_aux_lemma => kernel_rfl) (by as_aux_lemma => kernel_rfl) (by as_aux_lemma => kernel_rfl) (fun _ _ _ h => h) (Or.inl ⟨by kernel_rfl, ?_⟩) hS ?_
          · intro w hSw; (try dsimp only at hSw); go_simp; all_goals (try omega)
          (try simp only [Act.put, List.getElem_toArray, List.getElem_cons_zero, List.getElem_cons_succ, List.setIfInBounds_toArray, List.set_cons_zero, List.set_cons_succ])
          refine wpAnyH_take (i := 46) (v := (.bool true)) rfl (by as_aux_lemma => kernel_rfl) (by as_aux_lemma => kernel_rfl) (by as_aux_lemma => kernel_rfl) (fun _ _ _ h => h) (Or.inl ⟨by kernel_rfl, ?_⟩) hS ?_
          · intro w hSw; (try dsimp only at hSw); go_simp; all_goals (try omega)
          (try simp only [Act.put, List.getElem_toArray, List.getElem_cons_zero, List.getElem_cons_succ, List.setIfInBounds_toArray, List.set_cons_zero, List.set_cons_succ])
          refine wpAnyH_take (i := 47) (v := (.pointer (some ⟨w28.heap.size, 0, none⟩))) rfl (by as_aux_lemma => kernel_rfl) (by as_aux_lemma => kernel_rfl) (by as_aux_lemma => kernel_rfl) (fun _ _ _ h => h) (Or.inl ⟨by kernel_rfl, ?_⟩) hS ?_
          · intro w hSw; (try dsimp only at hSw); go_simp; all_goals (try omega)
          (try simp only [Act.put, List.getElem_toArray, List.getElem_cons_zero, List.getElem_cons_succ, List.setIfInBounds_toArray, List.set_cons_zero, List.set_cons_succ])
          refine wpAnyH_take (i := 48) (v := (.int .i64 c)) rfl (by as_aux_lemma => kernel_rfl) (by as_aux_lemma => kernel_rfl) (by as_aux_lemma => kernel_rfl) (fun _ _ _ h => h) (Or.inl ⟨by kernel_rfl, ?_⟩) hS ?_
          · intro w hSw; (try dsimp only at hSw); obtain ⟨hSb, hl0, hl1, hl2, hl3, hl4, hl5, hl6, hl7, hl8, hl9, hl10, hl11, hl12, hl13, hl14⟩ := hSw; go_simp; all_goals (try omega)
          (try simp only [Act.put, List.getElem_toArray, List.getElem_cons_zero, List.getElem_cons_succ, List.setIfInBounds_toArray, List.set_cons_zero, List.set_cons_succ])
          refine wpAnyH_take (i := 49) (v := (.agg #[.int .i64 L, .int .i64 R])) rfl (by as_aux_lemma => kernel_rfl) (by as_aux_lemma => kernel_rfl) (by as_aux_lemma => kernel_rfl) (fun _ _ _ h => h) (Or.inl ⟨by kernel_rfl, ?_⟩) hS ?_
          · intro w hSw; (try dsimp only at hSw); obtain ⟨hSb, hl0, hl1, hl2, hl3, hl4, hl5, hl6, hl7, hl8, hl9, hl10, hl11, hl12, hl13, hl14⟩ := hSw; go_simp; all_goals (try omega)
          (try simp only [Act.put, List.getElem_toArray, List.getElem_cons_zero, List.getElem_cons_succ, List.setIfInBounds_toArray, List.set_cons_zero, List.set_cons_succ])
          refine wpAnyH_ready (rs := [50]) (by as_aux_lemma => kernel_rfl) (by simp) ?_
          refine AllReadyH.cons rfl (fun K hK => ?_) AllReadyH.nil
          go_simp
          refine Calls.mono (HSS.out _) ?_
          rintro e w34 ⟨rfl, hc⟩
          have s34 : w33.heap.size ≤ w34.heap.size := hc.size
          have bq := hc
          replace cF0 := cell_later bq cF0
          replace zF := Nat.lt_of_lt_of_le zF bq.size
          replace cL0 := cell_later bq cL0
          replace cL1 := cell_later bq cL1
          replace cL2 := cell_later bq cL2
          replace zL := Nat.lt_of_lt_of_le zL bq.size
          replace cP0 := cell_later bq cP0
          replace cP1 := cell_later bq cP1
          replace zP := Nat.lt_of_lt_of_le zP bq.size
          replace cA0 := cell_later bq cA0
          replace cA1 := cell_later bq cA1
          replace cA2 := cell_later bq cA2
          replace zA := Nat.lt_of_lt_of_le zA bq.size
          replace cE0 := cell_later bq cE0
          replace cE1 := cell_later bq cE1
          replace cE2 := cell_later bq cE2
          replace zE := Nat.lt_of_lt_of_le zE bq.size
          replace cZ0 := cell_later bq cZ0
          replace cZ1 := cell_later bq cZ1
          replace cZ2 := cell_later bq cZ2
          replace zZ := Nat.lt_of_lt_of_le zZ bq.size
          replace cG0 := cell_later bq cG0
          replace cG1 := cell_later bq cG1
          replace cG2 := cell_later bq cG2
          replace zG := Nat.lt_of_lt_of_le zG bq.size
          replace cO0 := cell_later bq cO0
          replace cO1 := cell_later bq cO1
          replace cO2 := cell_later bq cO2
          replace zO := Nat.lt_of_lt_of_le zO bq.size
          replace cT0 := cell_later bq cT0
          replace cT1 := cell_later bq cT1
          replace zT := Nat.lt_of_lt_of_le zT bq.size
          replace ry := ry.below bq
          replace hb := hb.trans (bq.mono hb.size)
          clear hc bq
          refine hK.out _ _ (⟨hb, cA1, cA2, cE1, cE2, cF0, cG0, cL0, cL1, cL2, cP0, cP1, cT0, cT1, cZ1, cZ2⟩) (fun hS => ?_)
          clear hK K
          (try simp only [Act.put, List.getElem_toArray, List.getElem_cons_zero, List.getElem_cons_succ, List.setIfInBounds_toArray, List.set_cons_zero, List.set_cons_succ])
          refine wpAnyH_take (i := 51) (v := (.int .i64 c)) rfl (by as_aux_lemma => kernel_rfl) (by as_aux_lemma => kernel_rfl) (by as_aux_lemma => kernel_rfl) (fun _ _ _ h => h) (Or.inl ⟨by kernel_rfl, ?_⟩) hS ?_
          · intro w hSw; (try dsimp only at hSw); go_simp; all_goals (try omega)
          (try simp only [Act.put, List.getElem_toArray, List.getElem_cons_zero, List.getElem_cons_succ, List.setIfInBounds_toArray, List.set_cons_zero, List.set_cons_succ])
          refine wpAnyH_take (i := 52) (v := (.bool true)) rfl (by as_aux_lemma => kernel_rfl) (by as_aux_lemma => kernel_rfl) (by as_aux_lemma => kernel_rfl) (fun _ _ _ h => h) (Or.inl ⟨by kernel_rfl, ?_⟩) hS ?_
          · intro w hSw; (try dsimp only at hSw); go_simp; all_goals (try omega)
          (try simp only [Act.put, List.getElem_toArray, List.getElem_cons_zero, List.getElem_cons_succ, List.setIfInBounds_toArray, List.set_cons_zero, List.set_cons_succ])
          refine wpAnyH_take (i := 53) (v := (.bool true)) rfl (by as_aux_lemma => kernel_rfl) (by as_aux_lemma => kernel_rfl) (by as_aux_lemma => kernel_rfl) (fun _ _ _ h => h) (Or.inl ⟨by kernel_rfl, ?_⟩) hS ?_
          · intro w hSw; (try dsimp only at hSw); go_simp; all_goals (try omega)
          (try simp only [Act.put, List.getElem_toArray, List.getElem_cons_zero, List.getElem_cons_succ, List.setIfInBounds_toArray, List.set_cons_zero, List.set_cons_succ])
          refine wpAnyH_take (i := 54) (v := (.bool true)) rfl (by as_aux_lemma => kernel_rfl) (by as_aux_lemma => kernel_rfl) (by as_aux_lemma => kernel_rfl) (fun _ _ _ h => h) (Or.inl ⟨by kernel_rfl, ?_⟩) hS ?_
          · intro w hSw; (try dsimp only at hSw); go_simp; all_goals (try omega)
          (try simp only [Act.put, List.getElem_toArray, List.getElem_cons_zero, List.getElem_cons_succ, List.setIfInBounds_toArray, List.set_cons_zero, List.set_cons_succ])
          refine wpAnyH_take (i := 55) (v := (.pointer (some ⟨w28.heap.size, 1, none⟩))) rfl (by as_aux_lemma => kernel_rfl) (by as_aux_lemma => kernel_rfl) (by as_aux_lemma => kernel_rfl) (fun _ _ _ h => h) (Or.inl ⟨by kernel_rfl, ?_⟩) hS ?_
          · intro w hSw; (try dsimp only at hSw); go_simp; all_goals (try omega)
          (try simp only [Act.put, List.getElem_toArray, List.getElem_cons_zero, List.getElem_cons_succ, List.setIfInBounds_toArray, List.set_cons_zero, List.set_cons_succ])
          refine wpAnyH_take (i := 56) (v := (.string T)) rfl (by as_aux_lemma => kernel_rfl) (by as_aux_lemma => kernel_rfl) (by as_aux_lemma => kernel_rfl) (fun _ _ _ h => h) (Or.inl ⟨by kernel_rfl, ?_⟩) hS ?_
          · intro w hSw; (try dsimp only at hSw); obtain ⟨hSb, hl0, hl1, hl2, hl3, hl4, hl5, hl6, hl7, hl8, hl9, hl10, hl11, hl12, hl13, hl14⟩ := hSw; go_simp; all_goals (try omega)
          (try simp only [Act.put, List.getElem_toArray, List.getElem_cons_zero, List.getElem_cons_succ, List.setIfInBounds_toArray, List.set_cons_zero, List.set_cons_succ])
          refine wpAnyH_take (i := 57) (v := (.agg #[.int .i64 L, .int .i64 R])) rfl (by as_aux_lemma => kernel_rfl) (by as_aux_lemma => kernel_rfl) (by as_aux_lemma => kernel_rfl) (fun _ _ _ h => h) (Or.inl ⟨by kernel_rfl, ?_⟩) hS ?_
          · intro w hSw; (try dsimp only at hSw); obtain ⟨hSb, hl0, hl1, hl2, hl3, hl4, hl5, hl6, hl7, hl8, hl9, hl10, hl11, hl12, hl13, hl14⟩ := hSw; go_simp; all_goals (try omega)
          (try simp only [Act.put, List.getElem_toArray, List.getElem_cons_zero, List.getElem_cons_succ, List.setIfInBounds_toArray, List.set_cons_zero, List.set_cons_succ])
          refine wpAnyH_ready (rs := [58]) (by as_aux_lemma => kernel_rfl) (by simp) ?_
          refine AllReadyH.cons rfl (fun K hK => ?_) AllReadyH.nil
          go_simp
          refine Calls.mono (HSS.out _) ?_
          rintro e w35 ⟨rfl, hc⟩
          have s35 : w34.heap.size ≤ w35.heap.size := hc.size
          have bq := hc
          replace cF0 := cell_later bq cF0
          replace zF := Nat.lt_of_lt_of_le zF bq.size
          replace cL0 := cell_later bq cL0
          replace cL1 := cell_later bq cL1
          replace cL2 := cell_later bq cL2
          replace zL := Nat.lt_of_lt_of_le zL bq.size
          replace cP0 := cell_later bq cP0
          replace cP1 := cell_later bq cP1
          replace zP := Nat.lt_of_lt_of_le zP bq.size
          replace cA0 := cell_later bq cA0
          replace cA1 := cell_later bq cA1
          replace cA2 := cell_later bq cA2
          replace zA := Nat.lt_of_lt_of_le zA bq.size
          replace cE0 := cell_later bq cE0
          replace cE1 := cell_later bq cE1
          replace cE2 := cell_later bq cE2
          replace zE := Nat.lt_of_lt_of_le zE bq.size
          replace cZ0 := cell_later bq cZ0
          replace cZ1 := cell_later bq cZ1
          replace cZ2 := cell_later bq cZ2
          replace zZ := Nat.lt_of_lt_of_le zZ bq.size
          replace cG0 := cell_later bq cG0
          replace cG1 := cell_later bq cG1
          replace cG2 := cell_later bq cG2
          replace zG := Nat.lt_of_lt_of_le zG bq.size
          replace cO0 := cell_later bq cO0
          replace cO1 := cell_later bq cO1
          replace cO2 := cell_later bq cO2
          replace zO := Nat.lt_of_lt_of_le zO bq.size
          replace cT0 := cell_later bq cT0
          replace cT1 := cell_later bq cT1
          replace zT := Nat.lt_of_lt_of_le zT bq.size
          replace ry := ry.below bq
          replace hb := hb.trans (bq.mono hb.size)
          clear hc bq
          refine hK.out _ _ (⟨hb, cA1, cA2, cE1, cE2, cF0, cG0, cL0, cL1, cL2, cP0, cP1, cT0, cT1, cZ1, cZ2⟩) (fun hS => ?_)
          clear hK K
          (try simp only [Act.put, List.getElem_toArray, List.getElem_cons_zero, List.getElem_cons_succ, List.setIfInBounds_toArray, List.set_cons_zero, List.set_cons_succ])
          refine wpAnyH_take (i := 59) (v := (.string T)) rfl (by as_aux_lemma => kernel_rfl) (by as_aux_lemma => kernel_rfl) (by as_aux_lemma => kernel_rfl) (fun _ _ _ h => h) (Or.inl ⟨by kernel_rfl, ?_⟩) hS ?_
          · intro w hSw; (try dsimp only at hSw); go_simp; all_goals (try omega)
          (try simp only [Act.put, List.getElem_toArray, List.getElem_cons_zero, List.getElem_cons_succ, List.setIfInBounds_toArray, List.set_cons_zero, List.set_cons_succ])
          refine wpAnyH_take (i := 60) (v := (.bool true)) rfl (by as_aux_lemma => kernel_rfl) (by as_aux_lemma => kernel_rfl) (by as_aux_lemma => kernel_rfl) (fun _ _ _ h => h) (Or.inl ⟨by kernel_rfl, ?_⟩) hS ?_
          · intro w hSw; (try dsimp only at hSw); go_simp; all_goals (try omega)
          (try simp only [Act.put, List.getElem_toArray, List.getElem_cons_zero, List.getElem_cons_succ, List.setIfInBounds_toArray, List.set_cons_zero, List.set_cons_succ])
          refine wpAnyH_take (i := 61) (v := (.bool true)) rfl (by as_aux_lemma => kernel_rfl) (by as_aux_lemma => kernel_rfl) (by as_aux_lemma => kernel_rfl) (fun _ _ _ h => h) (Or.inl ⟨by kernel_rfl, ?_⟩) hS ?_
          · intro w hSw; (try dsimp only at hSw); go_simp; all_goals (try omega)
          (try simp only [Act.put, List.getElem_toArray, List.getElem_cons_zero, List.getElem_cons_succ, List.setIfInBounds_toArray, List.set_cons_zero, List.set_cons_succ])
          refine wpAnyH_take (i := 62) (v := (.bool true)) rfl (by as_aux_lemma => kernel_rfl) (by as_aux_lemma => kernel_rfl) (by as_aux_lemma => kernel_rfl) (fun _ _ _ h => h) (Or.inl ⟨by kernel_rfl, ?_⟩) hS ?_
          · intro w hSw; (try dsimp only at hSw); go_simp; all_goals (try omega)
          (try simp only [Act.put, List.getElem_toArray, List.getElem_cons_zero, List.getElem_cons_succ, List.setIfInBounds_toArray, List.set_cons_zero, List.set_cons_succ])
          refine wpAnyH_take (i := 63) (v := (.pointer (some ⟨w28.heap.size, 0, none⟩))) rfl (by as_aux_lemma => kernel_rfl) (by as_aux_lemma => kernel_rfl) (by as_aux_lemma => kernel_rfl) (fun _ _ _ h => h) (Or.inl ⟨by kernel_rfl, ?_⟩) hS ?_
          · intro w hSw; (try dsimp only at hSw); go_simp; all_goals (try omega)
          (try simp only [Act.put, List.getElem_toArray, List.getElem_cons_zero, List.getElem_cons_succ, List.setIfInBounds_toArray, List.set_cons_zero, List.set_cons_succ])
          refine wpAnyH_take (i := 64) (v := (.int .i64 c)) rfl (by as_aux_lemma => kernel_rfl) (by as_aux_lemma => kernel_rfl) (by as_aux_lemma => kernel_rfl) (fun _ _ _ h => h) (Or.inl ⟨by kernel_rfl, ?_⟩) hS ?_
          · intro w hSw; (try dsimp only at hSw); obtain ⟨hSb, hl0, hl1, hl2, hl3, hl4, hl5, hl6, hl7, hl8, hl9, hl10, hl11, hl12, hl13, hl14⟩ := hSw; go_simp; all_goals (try omega)
          (try simp only [Act.put, List.getElem_toArray, List.getElem_cons_zero, List.getElem_cons_succ, List.setIfInBounds_toArray, List.set_cons_zero, List.set_cons_succ])
          refine wpAnyH_take (i := 65) (v := (.bool cb)) rfl (by as_aux_lemma => kernel_rfl) (by as_aux_lemma => kernel_rfl) (by as_aux_lemma => kernel_rfl) (fun _ _ _ h => h) (Or.inl ⟨by kernel_rfl, ?_⟩) hS ?_
          · intro w hSw; (try dsimp only at hSw); go_simp; all_goals (try omega)
          (try simp only [Act.put, List.getElem_toArray, List.getElem_cons_zero, List.getElem_cons_succ, List.setIfInBounds_toArray, List.set_cons_zero, List.set_cons_succ])
          refine wpAnyH_take (i := 66) (v := (.bool cb)) rfl (by as_aux_lemma => kernel_rfl) (by as_aux_lemma => kernel_rfl) (by as_aux_lemma => kernel_rfl) (fun _ _ _ h => h) (Or.inl ⟨by kernel_rfl, ?_⟩) hS ?_
          · intro w hSw; (try dsimp only at hSw); go_simp; all_goals (try omega)
          (try simp only [Act.put, List.getElem_toArray, List.getElem_cons_zero, List.getElem_cons_succ, List.setIfInBounds_toArray, List.set_cons_zero, List.set_cons_succ])
          cases cb
          case false =>
            have hTe := HTE.out rfl
            clear HTE hcb
            refine wpAnyH_take (i := 67) (v := (.pointer (some ⟨w28.heap.size, 1, none⟩))) rfl (by as_aux_lemma => kernel_rfl) (by as_aux_lemma => kernel_rfl) (by as_aux_lemma => kernel_rfl) (fun _ _ _ h => h) (Or.inl ⟨by kernel_rfl, ?_⟩) hS ?_
            · intro w hSw; (try dsimp only at hSw); go_simp; all_goals (try omega)
            (try simp only [Act.put, List.getElem_toArray, List.getElem_cons_zero, List.getElem_cons_succ, List.setIfInBounds_toArray, List.set_cons_zero, List.set_cons_succ])
            refine wpAnyH_take (i := 68) (v := (.string T)) rfl (by as_aux_lemma => kernel_rfl) (by as_aux_lemma => kernel_rfl) (by as_aux_lemma => kernel_rfl) (fun _ _ _ h => h) (Or.inl ⟨by kernel_rfl, ?_⟩) hS ?_
            · intro w hSw; (try dsimp only at hSw); obtain ⟨hSb, hl0, hl1, hl2, hl3, hl4, hl5, hl6, hl7, hl8, hl9, hl10, hl11, hl12, hl13, hl14⟩ := hSw; go_simp; all_goals (try omega)
            (try simp only [Act.put, List.getElem_toArray, List.getElem_cons_zero, List.getElem_cons_succ, List.setIfInBounds_toArray, List.set_cons_zero, List.set_cons_succ])
            refine wpAnyH_take (i := 69) (v := (.bool true)) rfl (by as_aux_lemma => kernel_rfl) (by as_aux_lemma => kernel_rfl) (by as_aux_lemma => kernel_rfl) (fun _ _ _ h => h) (Or.inl ⟨by kernel_rfl, ?_⟩) hS ?_
            · intro w hSw; (try dsimp only at hSw); go_simp; all_goals (try omega)
            (try simp only [Act.put, List.getElem_toArray, List.getElem_cons_zero, List.getElem_cons_succ, List.setIfInBounds_toArray, List.set_cons_zero, List.set_cons_succ])
            refine wpAnyH_take (i := 70) (v := (.bool true)) rfl (by as_aux_lemma => kernel_rfl) (by as_aux_lemma => kernel_rfl) (by as_aux_lemma => kernel_rfl) (fun _ _ _ h => h) (Or.inl ⟨by kernel_rfl, ?_⟩) hS ?_
            · intro w hSw; (try dsimp only at hSw); go_simp; all_goals (try omega)
            (try simp only [Act.put, List.getElem_toArray, List.getElem_cons_zero, List.getElem_cons_succ, List.setIfInBounds_toArray, List.set_cons_zero, List.set_cons_succ])
            refine wpAnyH_take (i := 71) (v := (.bool true)) rfl (by as_aux_lemma => kernel_rfl) (by as_aux_lemma => kernel_rfl) (by as_aux_lemma => kernel_rfl) (fun _ _ _ h => h) (Or.inl ⟨by kernel_rfl, ?_⟩) hS ?_
            · intro w hSw; (try dsimp only at hSw); go_simp; all_goals (try omega)
            (try simp only [Act.put, List.getElem_toArray, List.getElem_cons_zero, List.getElem_cons_succ, List.setIfInBounds_toArray, List.set_cons_zero, List.set_cons_succ])
            refine wpAnyH_take (i := 72) (v := (.bool true)) rfl (by as_aux_lemma => kernel_rfl) (by as_aux_lemma => kernel_rfl) (by as_aux_lemma => kernel_rfl) (fun _ _ _ h => h) (Or.inl ⟨by kernel_rfl, ?_⟩) hS ?_
            · intro w hSw; (try dsimp only at hSw); go_simp; all_goals (try omega)
            (try simp only [Act.put, List.getElem_toArray, List.getElem_cons_zero, List.getElem_cons_succ, List.setIfInBounds_toArray, List.set_cons_zero, List.set_cons_succ])
            refine wpAnyH_done (by kernel_rfl) ?_ _
            clear hS
            go_wp2
            go_ret
            refine ⟨?_, hb⟩
            rename_i _ d1 h1 _ d2 h2
            have e1 : d1 = 2 := Option.some.inj (show some d1 = some 2 from h1.symm)
            have e2 : d2 = 158 := Option.some.inj (show some d2 = some 158 from h2.symm)
            rw [e1, e2]
            first | rfl | kernel_rfl
          case true =>
            clear HTE hcb
            refine wpAnyH_take (i := 67) (v := undef) rfl (by as_aux_lemma => kernel_rfl) (by as_aux_lemma => kernel_rfl) (by as_aux_lemma => kernel_rfl) (fun _ _ _ h => h) (Or.inr ⟨by kernel_rfl, rfl⟩) hS ?_
            (try simp only [Act.put, List.getElem_toArray, List.getElem_cons_zero, List.getElem_cons_succ, List.setIfInBounds_toArray, List.set_cons_zero, List.set_cons_succ])
            refine wpAnyH_take (i := 68) (v := undef) rfl (by as_aux_lemma => kernel_rfl) (by as_aux_lemma => kernel_rfl) (by as_aux_lemma => kernel_rfl) (fun _ _ _ h => h) (Or.inr ⟨by kernel_rfl, rfl⟩) hS ?_
            (try simp only [Act.put, List.getElem_toArray, List.getElem_cons_zero, List.getElem_cons_succ, List.setIfInBounds_toArray, List.set_cons_zero, List.set_cons_succ])
            refine wpAnyH_take (i := 69) (v := undef) rfl (by as_aux_lemma => kernel_rfl) (by as_aux_lemma => kernel_rfl) (by as_aux_lemma => kernel_rfl) (fun _ _ _ h => h) (Or.inr ⟨by kernel_rfl, rfl⟩) hS ?_
            (try simp only [Act.put, List.getElem_toArray, List.getElem_cons_zero, List.getElem_cons_succ, List.setIfInBounds_toArray, List.set_cons_zero, List.set_cons_succ])
            refine wpAnyH_take (i := 70) (v := (.bool true)) rfl (by as_aux_lemma => kernel_rfl) (by as_aux_lemma => kernel_rfl) (by as_aux_lemma => kernel_rfl) (fun _ _ _ h => h) (Or.inl ⟨by kernel_rfl, ?_⟩) hS ?_
            · intro w hSw; (try dsimp only at hSw); go_simp; all_goals (try omega)
            (try simp only [Act.put, List.getElem_toArray, List.getElem_cons_zero, List.getElem_cons_succ, List.setIfInBounds_toArray, List.set_cons_zero, List.set_cons_succ])
            refine wpAnyH_take (i := 71) (v := (.bool true)) rfl (by as_aux_lemma => kernel_rfl) (by as_aux_lemma => kernel_rfl) (by as_aux_lemma => kernel_rfl) (fun _ _ _ h => h) (Or.inl ⟨by kernel_rfl, ?_⟩) hS ?_
            · intro w hSw; (try dsimp only at hSw); go_simp; all_goals (try omega)
            (try simp only [Act.put, List.getElem_toArray, List.getElem_cons_zero, List.getElem_cons_succ, List.setIfInBounds_toArray, List.set_cons_zero, List.set_cons_succ])
            refine wpAnyH_take (i := 72) (v := (.bool true)) rfl (by as_aux_lemma => kernel_rfl) (by as_aux_lemma => kernel_rfl) (by as_aux_lemma => kernel_rfl) (fun _ _ _ h => h) (Or.inl ⟨by kernel_rfl, ?_⟩) hS ?_
            · intro w hSw; (try dsimp only at hSw); go_simp; all_goals (try omega)
            (try simp only [Act.put, List.getElem_toArray, List.getElem_cons_zero, List.getElem_cons_succ, List.setIfInBounds_toArray, List.set_cons_zero, List.set_cons_succ])
            refine wpAnyH_done (by kernel_rfl) ?_ _
            clear hS
            go_wp2
            go_ret
            refine ⟨?_, hb⟩
            rename_i _ d1 h1 _ d2 h2
            have e1 : d1 = 2 := Option.some.inj (show some d1 = some 2 from h1.symm)
            have e2 : d2 = 158 := Option.some.inj (show some d2 = some 158 from h2.symm)
            rw [e1, e2]
            first | rfl | kernel_rfl
      · have qA0 : ∀ w, (binOp .neq 29 (.agg #[.int .i64 A1, .int .i64 A2]) (.agg #[.int .i64 0, .int .i64 0])).run Tryd.prog w = .ok (.bool true) w := fun w => by rw [neqSpot, decide_eq_true hA0]
        have hGG : L = G1 ∧ R = G2 := by have e := m4 (fun e => hAE (by rw [Prod.mk.injEq] at e; exact e)) (fun e => hA0 (by rw [Prod.mk.injEq] at e; exact e)); rw [Prod.mk.injEq] at e; exact ⟨e.1.symm, e.2.symm⟩
        obtain ⟨rfl, rfl⟩ := hGG
        clear hAE hA0
        clear m4
        go_wp2_with fail
        have bp : ∀ o0 o1 o2, Below w1.heap.size w1 (((w1.alloc o0).alloc o1).alloc o2) := fun o0 o1 o2 => (((Below.refl _ _).alloc (Nat.le_refl _) o0).alloc (by simp) o1).alloc (by simp; omega) o2
        have hbt : ∀ o0 o1 o2, Below w.heap.size w (((w1.alloc o0).alloc o1).alloc o2) := fun o0 o1 o2 => hb.trans ((bp o0 o1 o2).mono hb.size)
        refine Calls.mono (HIM.out _ (ry.below (bp _ _ _)).read) ?_
        rintro e w2 ⟨rfl, hc⟩
        have s2 : w1.heap.size + 3 ≤ w2.heap.size := by have := hc.size; simp at this; omega
        have bq : Below w1.heap.size w1 w2 := (bp _ _ _).trans (hc.mono (bp _ _ _).size)
        have cF0 : w2.cell? ⟨w1.heap.size, 0, none⟩ = some (.slice ay ys.length ky) := cell_later hc (by simp [go_sem])
        have zF : w1.heap.size < w2.heap.size := by omega
        have cL0 : w2.cell? ⟨w1.heap.size + 1, 0, none⟩ = some (.int .i64 W) := cell_later hc (by simp [go_sem])
        have cL1 : w2.cell? ⟨w1.heap.size + 1, 1, none⟩ = some (.bool Q) := cell_later hc (by simp [go_sem])
        have cL2 : w2.cell? ⟨w1.heap.size + 1, 2, none⟩ = some (.int .i64 S) := cell_later hc (by simp [go_sem])
        have zL : w1.heap.size + 1 < w2.heap.size := by omega
        have cP0 : w2.cell? ⟨w1.heap.size + 1 + 1, 0, none⟩ = some (.int .i64 L) := cell_later hc (by simp [go_sem])
        have cP1 : w2.cell? ⟨w1.heap.size + 1 + 1, 1, none⟩ = some (.int .i64 R) := cell_later hc (by simp [go_sem])
        have zP : w1.heap.size + 1 + 1 < w2.heap.size := by omega
        replace ry := ry.below bq
        replace hb := hb.trans (bq.mono hb.size)
        clear hc bq bp hbt
        go_wp2_with fail
        have bp : ∀ o0, Below w2.heap.size w2 (w2.alloc o0) := fun o0 => (Below.refl _ _).alloc (Nat.le_refl _) o0
        have hbt : ∀ o0, Below w.heap.size w (w2.alloc o0) := fun o0 => hb.trans ((bp o0).mono hb.size)
        refine Calls.mono (HME.out _ (ry.below (bp _)).read) ?_
        rintro e w3 ⟨rfl, hc⟩
        have s3 : w2.heap.size + 1 ≤ w3.heap.size := by have := hc.size; simp at this; omega
        have bq : Below w2.heap.size w2 w3 := (bp _).trans (hc.mono (bp _).size)
        replace cF0 := cell_later bq cF0
        replace zF := Nat.lt_of_lt_of_le zF bq.size
        replace cL0 := cell_later bq cL0
        replace cL1 := cell_later bq cL1
        replace cL2 := cell_later bq cL2
        replace zL := Nat.lt_of_lt_of_le zL bq.size
        replace cP0 := cell_later bq cP0
        replace cP1 := cell_later bq cP1
        replace zP := Nat.lt_of_lt_of_le zP bq.size
        have cA0 : w3.cell? ⟨w2.heap.size, 0, none⟩ = some (.int .i64 0) := cell_later hc (by simp [go_sem])
        have cA1 : w3.cell? ⟨w2.heap.size, 1, none⟩ = some (.int .i64 A1) := cell_later hc (by simp [go_sem])
        have cA2 : w3.cell? ⟨w2.heap.size, 2, none⟩ = some (.int .i64 A2) := cell_later hc (by simp [go_sem])
        have zA : w2.heap.size < w3.heap.size := by omega
        replace ry := ry.below bq
        replace hb := hb.trans (bq.mono hb.size)
        clear hc bq bp hbt
        go_wp2_with fail
        have bp : ∀ o0, Below w3.heap.size w3 (w3.alloc o0) := fun o0 => (Below.refl _ _).alloc (Nat.le_refl _) o0
        have hbt : ∀ o0, Below w.heap.size w (w3.alloc o0) := fun o0 => hb.trans ((bp o0).mono hb.size)
        refine Calls.mono (HMF.out _ (ry.below (bp _)).read) ?_
        rintro e w4 ⟨rfl, hc⟩
        have s4 : w3.heap.size + 1 ≤ w4.heap.size := by have := hc.size; simp at this; omega
        have bq : Below w3.heap.size w3 w4 := (bp _).trans (hc.mono (bp _).size)
        replace cF0 := cell_later bq cF0
        replace zF := Nat.lt_of_lt_of_le zF bq.size
        replace cL0 := cell_later bq cL0
        replace cL1 := cell_later bq cL1
        replace cL2 := cell_later bq cL2
        replace zL := Nat.lt_of_lt_of_le zL bq.size
        replace cP0 := cell_later bq cP0
        replace cP1 := cell_later bq cP1
        replace zP := Nat.lt_of_lt_of_le zP bq.size
        replace cA0 := cell_later bq cA0
        replace cA1 := cell_later bq cA1
        replace cA2 := cell_later bq cA2
        replace zA := Nat.lt_of_lt_of_le zA bq.size
        have cE0 : w4.cell? ⟨w3.heap.size, 0, none⟩ = some (.int .i64 0) := cell_later hc (by simp [go_sem])
        have cE1 : w4.cell? ⟨w3.heap.size, 1, none⟩ = some (.int .i64 E1) := cell_later hc (by simp [go_sem])
        have cE2 : w4.cell? ⟨w3.heap.size, 2, none⟩ = some (.int .i64 E2) := cell_later hc (by simp [go_sem])
        have zE : w3.heap.size < w4.heap.size := by omega
        replace ry := ry.below bq
        replace hb := hb.trans (bq.mono hb.size)
        clear hc bq bp hbt
        go_wp2_with fail
        have bp : ∀ o0, Below w4.heap.size w4 (w4.alloc o0) := fun o0 => (Below.refl _ _).alloc (Nat.le_refl _) o0
        have hbt : ∀ o0, Below w.heap.size w (w4.alloc o0) := fun o0 => hb.trans ((bp o0).mono hb.size)
        refine Calls.mono (HMG.out _ (ry.below (bp _)).read) ?_
        rintro e w5 ⟨rfl, hc⟩
        have s5 : w4.heap.size + 1 ≤ w5.heap.size := by have := hc.size; simp at this; omega
        have bq : Below w4.heap.size w4 w5 := (bp _).trans (hc.mono (bp _).size)
        replace cF0 := cell_later bq cF0
        replace zF := Nat.lt_of_lt_of_le zF bq.size
        replace cL0 := cell_later bq cL0
        replace cL1 := cell_later bq cL1
        replace cL2 := cell_later bq cL2
        replace zL := Nat.lt_of_lt_of_le zL bq.size
        replace cP0 := cell_later bq cP0
        replace cP1 := cell_later bq cP1
        replace zP := Nat.lt_of_lt_of_le zP bq.size
        replace cA0 := cell_later bq cA0
        replace cA1 := cell_later bq cA1
        replace cA2 := cell_later bq cA2
        replace zA := Nat.lt_of_lt_of_le zA bq.size
        replace cE0 := cell_later bq cE0
        replace cE1 := cell_later bq cE1
        replace cE2 := cell_later bq cE2
        replace zE := Nat.lt_of_lt_of_le zE bq.size
        have cZ0 : w5.cell? ⟨w4.heap.size, 0, none⟩ = some (.int .i64 0) := cell_later hc (by simp [go_sem])
        have cZ1 : w5.cell? ⟨w4.heap.size, 1, none⟩ = some (.int .i64 0) := cell_later hc (by simp [go_sem])
        have cZ2 : w5.cell? ⟨w4.heap.size, 2, none⟩ = some (.int .i64 0) := cell_later hc (by simp [go_sem])
        have zZ : w4.heap.size < w5.heap.size := by omega
        replace ry := ry.below bq
        replace hb := hb.trans (bq.mono hb.size)
        clear hc bq bp hbt
        go_wp2_with fail
        have bp : ∀ o0, Below w5.heap.size w5 (w5.alloc o0) := fun o0 => (Below.refl _ _).alloc (Nat.le_refl _) o0
        have hbt : ∀ o0, Below w.heap.size w (w5.alloc o0) := fun o0 => hb.trans ((bp o0).mono hb.size)
        refine Calls.mono (HMO.out _ (ry.below (bp _)).read) ?_
        rintro e w6 ⟨rfl, hc⟩
        have s6 : w5.heap.size + 1 ≤ w6.heap.size := by have := hc.size; simp at this; omega
        have bq : Below w5.heap.size w5 w6 := (bp _).trans (hc.mono (bp _).size)
        replace cF0 := cell_later bq cF0
        replace zF := Nat.lt_of_lt_of_le zF bq.size
        replace cL0 := cell_later bq cL0
        replace cL1 := cell_later bq cL1
        replace cL2 := cell_later bq cL2
        replace zL := Nat.lt_of_lt_of_le zL bq.size
        replace cP0 := cell_later bq cP0
        replace cP1 := cell_later bq cP1
        replace zP := Nat.lt_of_lt_of_le zP bq.size
        replace cA0 := cell_later bq cA0
        replace cA1 := cell_later bq cA1
        replace cA2 := cell_later bq cA2
        replace zA := Nat.lt_of_lt_of_le zA bq.size
        replace cE0 := cell_later bq cE0
        replace cE1 := cell_later bq cE1
        replace cE2 := cell_later bq cE2
        replace zE := Nat.lt_of_lt_of_le zE bq.size
        replace cZ0 := cell_later bq cZ0
        replace cZ1 := cell_later bq cZ1
        replace cZ2 := cell_later bq cZ2
        replace zZ := Nat.lt_of_lt_of_le zZ bq.size
        have cG0 : w6.cell? ⟨w5.heap.size, 0, none⟩ = some (.int .i64 0) := cell_later hc (by simp [go_sem])
        have cG1 : w6.cell? ⟨w5.heap.size, 1, none⟩ = some (.int .i64 L) := cell_later hc (by simp [go_sem])
        have cG2 : w6.cell? ⟨w5.heap.size, 2, none⟩ = some (.int .i64 R) := cell_later hc (by simp [go_sem])
        have zG : w5.heap.size < w6.heap.size := by omega
        replace ry := ry.below bq
        replace hb := hb.trans (bq.mono hb.size)
        clear hc bq bp hbt
        go_wp2_with fail
        have bp : ∀ o0, Below w6.heap.size w6 (w6.alloc o0) := fun o0 => (Below.refl _ _).alloc (Nat.le_refl _) o0
        have hbt : ∀ o0, Below w.heap.size w (w6.alloc o0) := fun o0 => hb.trans ((bp o0).mono hb.size)
        obtain ⟨w7, hw7⟩ : ∃ x, (w6.alloc (.cells #[.int .i64 0, .int .i64 O1, .int .i64 O2] 33)) = x := ⟨_, rfl⟩
        have hc : Below ((w6.alloc (.cells #[.int .i64 0, .int .i64 O1, .int .i64 O2] 33))).heap.size ((w6.alloc (.cells #[.int .i64 0, .int .i64 O1, .int .i64 O2] 33))) w7 := hw7 ▸ Below.refl _ _
        have s7 : w6.heap.size + 1 ≤ w7.heap.size := by have := hc.size; simp at this; omega
        have bq : Below w6.heap.size w6 w7 := (bp _).trans (hc.mono (bp _).size)
        replace cF0 := cell_later bq cF0
        replace zF := Nat.lt_of_lt_of_le zF bq.size
        replace cL0 := cell_later bq cL0
        replace cL1 := cell_later bq cL1
        replace cL2 := cell_later bq cL2
        replace zL := Nat.lt_of_lt_of_le zL bq.size
        replace cP0 := cell_later bq cP0
        replace cP1 := cell_later bq cP1
        replace zP := Nat.lt_of_lt_of_le zP bq.size
        replace cA0 := cell_later bq cA0
        replace cA1 := cell_later bq cA1
        replace cA2 := cell_later bq cA2
        replace zA := Nat.lt_of_lt_of_le zA bq.size
        replace cE0 := cell_later bq cE0
        replace cE1 := cell_later bq cE1
        replace cE2 := cell_later bq cE2
        replace zE := Nat.lt_of_lt_of_le zE bq.size
        replace cZ0 := cell_later bq cZ0
        replace cZ1 := cell_later bq cZ1
        replace cZ2 := cell_later bq cZ2
        replace zZ := Nat.lt_of_lt_of_le zZ bq.size
        replace cG0 := cell_later bq cG0
        replace cG1 := cell_later bq cG1
        replace cG2 := cell_later bq cG2
        replace zG := Nat.lt_of_lt_of_le zG bq.size
        have cO0 : w7.cell? ⟨w6.heap.size, 0, none⟩ = some (.int .i64 0) := cell_later hc (by simp [go_sem])
        have cO1 : w7.cell? ⟨w6.heap.size, 1, none⟩ = some (.int .i64 O1) := cell_later hc (by simp [go_sem])
        have cO2 : w7.cell? ⟨w6.heap.size, 2, none⟩ = some (.int .i64 O2) := cell_later hc (by simp [go_sem])
        have zO : w6.heap.size < w7.heap.size := by omega
        replace ry := ry.below bq
        replace hb := hb.trans (bq.mono hb.size)
        clear hc bq bp hbt
        rw [hw7]
        clear hw7
        refine region_join (fun a a' w' => ∃ (x71 x72 x73 x74 x75 x76 x77 x78 x79 x80 x81 x82 x83 : Value), a' = ((((((((((((((a.put (some 71) x71).put (some 72) x72).put (some 73) x73).put (some 74) x74).put (some 75) x75).put (some 76) x76).put (some 77) x77).put (some 78) x78).put (some 79) x79).put (some 80) x80).put (some 81) x81).put (some 82) x82).put (some 83) x83).put (some 84) (.bool false)) ∧ Below w.heap.size w w' ∧ RowI .u8 5 w' w.heap.size w1.heap.size (.slice ay ys.length ky) ys.length ys ∧ w'.cell? ⟨w1.heap.size, 0, none⟩ = some (.slice ay ys.length ky) ∧ w1.heap.size < w'.heap.size ∧ w'.cell? ⟨w1.heap.size + 1, 0, none⟩ = some (.int .i64 W) ∧ w'.cell? ⟨w1.heap.size + 1, 1, none⟩ = some (.bool Q) ∧ w'.cell? ⟨w1.heap.size + 1, 2, none⟩ = some (.int .i64 S) ∧ w1.heap.size + 1 < w'.heap.size ∧ w'.cell? ⟨w1.heap.size + 1 + 1, 0, none⟩ = some (.int .i64 L) ∧ w'.cell? ⟨w1.heap.size + 1 + 1, 1, none⟩ = some (.int .i64 R) ∧ w1.heap.size + 1 + 1 < w'.heap.size ∧ w'.cell? ⟨w2.heap.size, 0, none⟩ = some (.int .i64 0) ∧ w'.cell? ⟨w2.heap.size, 1, none⟩ = some (.int .i64 A1) ∧ w'.cell? ⟨w2.heap.size, 2, none⟩ = some (.int .i64 A2) ∧ w2.heap.size < w'.heap.size ∧ w'.cell? ⟨w3.heap.size, 0, none⟩ = some (.int .i64 0) ∧ w'.cell? ⟨w3.heap.size, 1, none⟩ = some (.int .i64 E1) ∧ w'.cell? ⟨w3.heap.size, 2, none⟩ = some (.int .i64 E2) ∧ w3.heap.size < w'.heap.size ∧ w'.cell? ⟨w4.heap.size, 0, none⟩ = some (.int .i64 0) ∧ w'.cell? ⟨w4.heap.size, 1, none⟩ = some (.int .i64 0) ∧ w'.cell? ⟨w4.heap.size, 2, none⟩ = some (.int .i64 0) ∧ w4.heap.size < w'.heap.size ∧ w'.cell? ⟨w5.heap.size, 0, none⟩ = some (.int .i64 0) ∧ w'.cell? ⟨w5.heap.size, 1, none⟩ = some (.int .i64 L) ∧ w'.cell? ⟨w5.heap.size, 2, none⟩ = some (.int .i64 R) ∧ w5.heap.size < w'.heap.size ∧ w'.cell? ⟨w6.heap.size, 0, none⟩ = some (.int .i64 0) ∧ w'.cell? ⟨w6.heap.size, 1, none⟩ = some (.int .i64 O1) ∧ w'.cell? ⟨w6.heap.size, 2, none⟩ = some (.int .i64 O2) ∧ w6.heap.size < w'.heap.size) ?_ ?_
        · skip
          by_cases hO : O1 = L ∧ O2 = R
          · have qOS : ∀ w, (binOp .neq 29 (.agg #[.int .i64 O1, .int .i64 O2]) (.agg #[.int .i64 L, .int .i64 R])).run Tryd.prog w = .ok (.bool false) w := fun w => by rw [neqSpot, decide_eq_false (fun h => h hO)]
            clear hO m6 MB
            have bd : Below w7.heap.size w7 w7.drew := (Below.refl _ _).drew
            refine wp_region_held_drew (S := fun w' => Below w.heap.size w w' ∧ w'.cell? ⟨w6.heap.size, 1, none⟩ = some (.int .i64 O1) ∧ w'.cell? ⟨w6.heap.size, 2, none⟩ = some (.int .i64 O2) ∧ w'.cell? ⟨w1.heap.size + 1 + 1, 0, none⟩ = some (.int .i64 L) ∧ w'.cell? ⟨w1.heap.size + 1 + 1, 1, none⟩ = some (.int .i64 R)) (by kernel_rfl) ⟨(hb.trans (bd.mono hb.size)), cell_later bd cO1, cell_later bd cO2, cell_later bd cP0, cell_later bd cP1⟩ (fun hS => ?_)
            obtain ⟨D7, hD⟩ : ∃ D, w7.drew = D := ⟨_, rfl⟩
            rw [hD] at hS bd ⊢
            have hc := bd
            clear hD bd
            have s8 : w7.heap.size ≤ D7.heap.size := hc.size
            have bq := hc
            replace cF0 := cell_later bq cF0
            replace zF := Nat.lt_of_lt_of_le zF bq.size
            replace cL0 := cell_later bq cL0
            replace cL1 := cell_later bq cL1
            replace cL2 := cell_later bq cL2
            replace zL := Nat.lt_of_lt_of_le zL bq.size
            replace cP0 := cell_later bq cP0
            replace cP1 := cell_later bq cP1
            replace zP := Nat.lt_of_lt_of_le zP bq.size
            replace cA0 := cell_later bq cA0
            replace cA1 := cell_later bq cA1
            replace cA2 := cell_later bq cA2
            replace zA := Nat.lt_of_lt_of_le zA bq.size
            replace cE0 := cell_later bq cE0
            replace cE1 := cell_later bq cE1
            replace cE2 := cell_later bq cE2
            replace zE := Nat.lt_of_lt_of_le zE bq.size
            replace cZ0 := cell_later bq cZ0
            replace cZ1 := cell_later bq cZ1
            replace cZ2 := cell_later bq cZ2
            replace zZ := Nat.lt_of_lt_of_le zZ bq.size
            replace cG0 := cell_later bq cG0
            replace cG1 := cell_later bq cG1
            replace cG2 := cell_later bq cG2
            replace zG := Nat.lt_of_lt_of_le zG bq.size
            replace cO0 := cell_later bq cO0
            replace cO1 := cell_later bq cO1
            replace cO2 := cell_later bq cO2
            replace zO := Nat.lt_of_lt_of_le zO bq.size
            replace ry := ry.below bq
            replace hb := hb.trans (bq.mono hb.size)
            clear hc bq
            refine wpAnyH_take (i := 0) (v := (.pointer (some ⟨w6.heap.size, 1, none⟩))) rfl (by as_aux_lemma => kernel_rfl) (by as_aux_lemma => kernel_rfl) (by as_aux_lemma => kernel_rfl) (fun _ _ _ h => nomatch h.1) (Or.inl ⟨by kernel_rfl, ?_⟩) hS ?_
            · intro w hSw; (try dsimp only at hSw); go_simp; all_goals (try omega)
            (try simp only [Act.put, List.getElem_toArray, List.getElem_cons_zero, List.getElem_cons_succ, List.setIfInBounds_toArray, List.set_cons_zero, List.set_cons_succ])
            refine wpAnyH_take (i := 1) (v := (.agg #[.int .i64 O1, .int .i64 O2])) rfl (by as_aux_lemma => kernel_rfl) (by as_aux_lemma => kernel_rfl) (by as_aux_lemma => kernel_rfl) (fun _ _ _ h => nomatch h.1) (Or.inl ⟨by kernel_rfl, ?_⟩) hS ?_
            · intro w hSw; (try dsimp only at hSw); obtain ⟨hSb, hl0, hl1, hl2, hl3⟩ := hSw; go_simp; all_goals (try omega)
            (try simp only [Act.put, List.getElem_toArray, List.getElem_cons_zero, List.getElem_cons_succ, List.setIfInBounds_toArray, List.set_cons_zero, List.set_cons_succ])
            refine wpAnyH_take (i := 2) (v := (.agg #[.int .i64 L, .int .i64 R])) rfl (by as_aux_lemma => kernel_rfl) (by as_aux_lemma => kernel_rfl) (by as_aux_lemma => kernel_rfl) (fun _ _ _ h => nomatch h.1) (Or.inl ⟨by kernel_rfl, ?_⟩) hS ?_
            · intro w hSw; (try dsimp only at hSw); obtain ⟨hSb, hl0, hl1, hl2, hl3⟩ := hSw; go_simp; all_goals (try omega)
            (try simp only [Act.put, List.getElem_toArray, List.getElem_cons_zero, List.getElem_cons_succ, List.setIfInBounds_toArray, List.set_cons_zero, List.set_cons_succ])
            refine wpAnyH_take (i := 3) (v := (.bool false)) rfl (by as_aux_lemma => kernel_rfl) (by as_aux_lemma => kernel_rfl) (by as_aux_lemma => kernel_rfl) (fun _ _ _ h => nomatch h.1) (Or.inl ⟨by kernel_rfl, ?_⟩) hS ?_
            · intro w hSw; (try dsimp only at hSw); go_simp; all_goals (try omega)
            (try simp only [Act.put, List.getElem_toArray, List.getElem_cons_zero, List.getElem_cons_succ, List.setIfInBounds_toArray, List.set_cons_zero, List.set_cons_succ])
            refine wpAnyH_take (i := 4) (v := (.bool false)) rfl (by as_aux_lemma => kernel_rfl) (by as_aux_lemma => kernel_rfl) (by as_aux_lemma => kernel_rfl) (fun _ _ _ h => nomatch h.1) (Or.inl ⟨by kernel_rfl, ?_⟩) hS ?_
            · intro w hSw; (try dsimp only at hSw); go_simp; all_goals (try omega)
            (try simp only [Act.put, List.getElem_toArray, List.getElem_cons_zero, List.getElem_cons_succ, List.setIfInBounds_toArray, List.set_cons_zero, List.set_cons_succ])
            refine wpAnyH_take (i := 5) (v := undef) rfl (by as_aux_lemma => kernel_rfl) (by as_aux_lemma => kernel_rfl) (by as_aux_lemma => kernel_rfl) (fun _ _ _ h => nomatch h.1) (Or.inr ⟨by kernel_rfl, rfl⟩) hS ?_
            (try simp only [Act.put, List.getElem_toArray, List.getElem_cons_zero, List.getElem_cons_succ, List.setIfInBounds_toArray, List.set_cons_zero, List.set_cons_succ])
            refine wpAnyH_take (i := 6) (v := undef) rfl (by as_aux_lemma => kernel_rfl) (by as_aux_lemma => kernel_rfl) (by as_aux_lemma => kernel_rfl) (fun _ _ _ h => nomatch h.1) (Or.inr ⟨by kernel_rfl, rfl⟩) hS ?_
            (try simp only [Act.put, List.getElem_toArray, List.getElem_cons_zero, List.getElem_cons_succ, List.setIfInBounds_toArray, List.set_cons_zero, List.set_cons_succ])
            refine wpAnyH_take (i := 7) (v := undef) rfl (by as_aux_lemma => kernel_rfl) (by as_aux_lemma => kernel_rfl) (by as_aux_lemma => kernel_rfl) (fun _ _ _ h => nomatch h.1) (Or.inr ⟨by kernel_rfl, rfl⟩) hS ?_
            (try simp only [Act.put, List.getElem_toArray, List.getElem_cons_zero, List.getElem_cons_succ, List.setIfInBounds_toArray, List.set_cons_zero, List.set_cons_succ])
            refine wpAnyH_take (i := 8) (v := undef) rfl (by as_aux_lemma => kernel_rfl) (by as_aux_lemma => kernel_rfl) (by as_aux_lemma => kernel_rfl) (fun _ _ _ h => nomatch h.1) (Or.inr ⟨by kernel_rfl, rfl⟩) hS ?_
            (try simp only [Act.put, List.getElem_toArray, List.getElem_cons_zero, List.getElem_cons_succ, List.setIfInBounds_toArray, List.set_cons_zero, List.set_cons_succ])
            refine wpAnyH_take (i := 9) (v := undef) rfl (by as_aux_lemma => kernel_rfl) (by as_aux_lemma => kernel_rfl) (by as_aux_lemma => kernel_rfl) (fun _ _ _ h => nomatch h.1) (Or.inr ⟨by kernel_rfl, rfl⟩) hS ?_
            (try simp only [Act.put, List.getElem_toArray, List.getElem_cons_zero, List.getElem_cons_succ, List.setIfInBounds_toArray, List.set_cons_zero, List.set_cons_succ])
            refine wpAnyH_take (i := 10) (v := undef) rfl (by as_aux_lemma => kernel_rfl) (by as_aux_lemma => kernel_rfl) (by as_aux_lemma => kernel_rfl) (fun _ _ _ h => nomatch h.1) (Or.inr ⟨by kernel_rfl, rfl⟩) hS ?_
            (try simp only [Act.put, List.getElem_toArray, List.getElem_cons_zero, List.getElem_cons_succ, List.setIfInBounds_toArray, List.set_cons_zero, List.set_cons_succ])
            refine wpAnyH_take (i := 11) (v := undef) rfl (by as_aux_lemma => kernel_rfl) (by as_aux_lemma => kernel_rfl) (by as_aux_lemma => kernel_rfl) (fun _ _ _ h => nomatch h.1) (Or.inr ⟨by kernel_rfl, rfl⟩) hS ?_
            (try simp only [Act.put, List.getElem_toArray, List.getElem_cons_zero, List.getElem_cons_succ, List.setIfInBounds_toArray, List.set_cons_zero, List.set_cons_succ])
            refine wpAnyH_take (i := 12) (v := undef) rfl (by as_aux_lemma => kernel_rfl) (by as_aux_lemma => kernel_rfl) (by as_aux_lemma => kernel_rfl) (fun _ _ _ h => nomatch h.1) (Or.inr ⟨by kernel_rfl, rfl⟩) hS ?_
            (try simp only [Act.put, List.getElem_toArray, List.getElem_cons_zero, List.getElem_cons_succ, List.setIfInBounds_toArray, List.set_cons_zero, List.set_cons_succ])
            refine wpAnyH_take (i := 13) (v := (.bool false)) rfl (by as_aux_lemma => kernel_rfl) (by as_aux_lemma => kernel_rfl) (by as_aux_lemma => kernel_rfl) (fun _ _ _ h => nomatch h.1) (Or.inl ⟨by kernel_rfl, ?_⟩) hS ?_
            · intro w hSw; (try dsimp only at hSw); go_simp; all_goals (try omega)
            (try simp only [Act.put, List.getElem_toArray, List.getElem_cons_zero, List.getElem_cons_succ, List.setIfInBounds_toArray, List.set_cons_zero, List.set_cons_succ])
            refine wpAnyH_done (by kernel_rfl) ?_ _
            refine ⟨rfl, (.pointer (some ⟨w6.heap.size, 1, none⟩)), (.agg #[.int .i64 O1, .int .i64 O2]), (.agg #[.int .i64 L, .int .i64 R]), (.bool false), (.bool false), (undef), (undef), (undef), (undef), (undef), (undef), (undef), (undef), ?_, hb, ry, cF0, zF, cL0, cL1, cL2, zL, cP0, cP1, zP, cA0, cA1, cA2, zA, cE0, cE1, cE2, zE, cZ0, cZ1, cZ2, zZ, cG0, cG1, cG2, zG, cO0, cO1, cO2, zO⟩
            (try simp only [Act.put, List.getElem_toArray, List.getElem_cons_zero, List.getElem_cons_succ, List.setIfInBounds_toArray, List.set_cons_zero, List.set_cons_succ])
          · have qOS : ∀ w, (binOp .neq 29 (.agg #[.int .i64 O1, .int .i64 O2]) (.agg #[.int .i64 L, .int .i64 R])).run Tryd.prog w = .ok (.bool true) w := fun w => by rw [neqSpot, decide_eq_true hO]
            have hBB : L = B1 ∧ R = B2 := by have e := m6 (fun e => hO (by rw [Prod.mk.injEq] at e; exact e)); rw [Prod.mk.injEq] at e; exact ⟨e.1.symm, e.2.symm⟩
            obtain ⟨rfl, rfl⟩ := hBB
            have HMB : Hid _ := MB
            clear hO m6 MB
            have bd : Below w7.heap.size w7 w7.drew := (Below.refl _ _).drew
            refine wp_region_held_drew (S := fun w' => Below w.heap.size w w' ∧ w'.cell? ⟨w1.heap.size, 0, none⟩ = some (.slice ay ys.length ky) ∧ w'.cell? ⟨w1.heap.size + 1, 0, none⟩ = some (.int .i64 W) ∧ w'.cell? ⟨w1.heap.size + 1, 1, none⟩ = some (.bool Q) ∧ w'.cell? ⟨w1.heap.size + 1, 2, none⟩ = some (.int .i64 S) ∧ w'.cell? ⟨w6.heap.size, 1, none⟩ = some (.int .i64 O1) ∧ w'.cell? ⟨w6.heap.size, 2, none⟩ = some (.int .i64 O2) ∧ w'.cell? ⟨w1.heap.size + 1 + 1, 0, none⟩ = some (.int .i64 L) ∧ w'.cell? ⟨w1.heap.size + 1 + 1, 1, none⟩ = some (.int .i64 R)) (by kernel_rfl) ⟨(hb.trans (bd.mono hb.size)), cell_later bd cF0, cell_later bd cL0, cell_later bd cL1, cell_later bd cL2, cell_later bd cO1, cell_later bd cO2, cell_later bd cP0, cell_later bd cP1⟩ (fun hS => ?_)
            obtain ⟨D7, hD⟩ : ∃ D, w7.drew = D := ⟨_, rfl⟩
            rw [hD] at hS bd ⊢
            have hc := bd
            clear hD bd
            have s8 : w7.heap.size ≤ D7.heap.size := hc.size
            have bq := hc
            replace cF0 := cell_later bq cF0
            replace zF := Nat.lt_of_lt_of_le zF bq.size
            replace cL0 := cell_later bq cL0
            replace cL1 := cell_later bq cL1
            replace cL2 := cell_later bq cL2
            replace zL := Nat.lt_of_lt_of_le zL bq.size
            replace cP0 := cell_later bq cP0
            replace cP1 := cell_later bq cP1
            replace zP := Nat.lt_of_lt_of_le zP bq.size
            replace cA0 := cell_later bq cA0
            replace cA1 := cell_later bq cA1
            replace cA2 := cell_later bq cA2
            replace zA := Nat.lt_of_lt_of_le zA bq.size
            replace cE0 := cell_later bq cE0
            replace cE1 := cell_later bq cE1
            replace cE2 := cell_later bq cE2
            replace zE := Nat.lt_of_lt_of_le zE bq.size
            replace cZ0 := cell_later bq cZ0
            replace cZ1 := cell_later bq cZ1
            replace cZ2 := cell_later bq cZ2
            replace zZ := Nat.lt_of_lt_of_le zZ bq.size
            replace cG0 := cell_later bq cG0
            replace cG1 := cell_later bq cG1
            replace cG2 := cell_later bq cG2
            replace zG := Nat.lt_of_lt_of_le zG bq.size
            replace cO0 := cell_later bq cO0
            replace cO1 := cell_later bq cO1
            replace cO2 := cell_later bq cO2
            replace zO := Nat.lt_of_lt_of_le zO bq.size
            replace ry := ry.below bq
            replace hb := hb.trans (bq.mono hb.size)
            clear hc bq
            refine wpAnyH_take (i := 0) (v := (.pointer (some ⟨w6.heap.size, 1, none⟩))) rfl (by as_aux_lemma => kernel_rfl) (by as_aux_lemma => kernel_rfl) (by as_aux_lemma => kernel_rfl) (fun _ _ _ h => nomatch h.1) (Or.inl ⟨by kernel_rfl, ?_⟩) hS ?_
            · intro w hSw; (try dsimp only at hSw); go_simp; all_goals (try omega)
            (try simp only [Act.put, List.getElem_toArray, List.getElem_cons_zero, List.getElem_cons_succ, List.setIfInBounds_toArray, List.set_cons_zero, List.set_cons_succ])
            refine wpAnyH_take (i := 1) (v := (.agg #[.int .i64 O1, .int .i64 O2])) rfl (by as_aux_lemma => kernel_rfl) (by as_aux_lemma => kernel_rfl) (by as_aux_lemma => kernel_rfl) (fun _ _ _ h => nomatch h.1) (Or.inl ⟨by kernel_rfl, ?_⟩) hS ?_
            · intro w hSw; (try dsimp only at hSw); obtain ⟨hSb, hl0, hl1, hl2, hl3, hl4, hl5, hl6, hl7⟩ := hSw; go_simp; all_goals (try omega)
            (try simp only [Act.put, List.getElem_toArray, List.getElem_cons_zero, List.getElem_cons_succ, List.setIfInBounds_toArray, List.set_cons_zero, List.set_cons_succ])
            refine wpAnyH_take (i := 2) (v := (.agg #[.int .i64 L, .int .i64 R])) rfl (by as_aux_lemma => kernel_rfl) (by as_aux_lemma => kernel_rfl) (by as_aux_lemma => kernel_rfl) (fun _ _ _ h => nomatch h.1) (Or.inl ⟨by kernel_rfl, ?_⟩) hS ?_
            · intro w hSw; (try dsimp only at hSw); obtain ⟨hSb, hl0, hl1, hl2, hl3, hl4, hl5, hl6, hl7⟩ := hSw; go_simp; all_goals (try omega)
            (try simp only [Act.put, List.getElem_toArray, List.getElem_cons_zero, List.getElem_cons_succ, List.setIfInBounds_toArray, List.set_cons_zero, List.set_cons_succ])
            refine wpAnyH_take (i := 3) (v := (.bool true)) rfl (by as_aux_lemma => kernel_rfl) (by as_aux_lemma => kernel_rfl) (by as_aux_lemma => kernel_rfl) (fun _ _ _ h => nomatch h.1) (Or.inl ⟨by kernel_rfl, ?_⟩) hS ?_
            · intro w hSw; (try dsimp only at hSw); go_simp; all_goals (try omega)
            (try simp only [Act.put, List.getElem_toArray, List.getElem_cons_zero, List.getElem_cons_succ, List.setIfInBounds_toArray, List.set_cons_zero, List.set_cons_succ])
            refine wpAnyH_take (i := 4) (v := (.bool true)) rfl (by as_aux_lemma => kernel_rfl) (by as_aux_lemma => kernel_rfl) (by as_aux_lemma => kernel_rfl) (fun _ _ _ h => nomatch h.1) (Or.inl ⟨by kernel_rfl, ?_⟩) hS ?_
            · intro w hSw; (try dsimp only at hSw); go_simp; all_goals (try omega)
            (try simp only [Act.put, List.getElem_toArray, List.getElem_cons_zero, List.getElem_cons_succ, List.setIfInBounds_toArray, List.set_cons_zero, List.set_cons_succ])
            refine wpAnyH_take (i := 5) (v := (.agg #[.slice ay ys.length ky])) rfl (by as_aux_lemma => kernel_rfl) (by as_aux_lemma => kernel_rfl) (by as_aux_lemma => kernel_rfl) (fun _ _ _ h => nomatch h.1) (Or.inl ⟨by kernel_rfl, ?_⟩) hS ?_
            · intro w hSw; (try dsimp only at hSw); obtain ⟨hSb, hl0, hl1, hl2, hl3, hl4, hl5, hl6, hl7⟩ := hSw; go_simp; all_goals (try omega)
            (try simp only [Act.put, List.getElem_toArray, List.getElem_cons_zero, List.getElem_cons_succ, List.setIfInBounds_toArray, List.set_cons_zero, List.set_cons_succ])
            refine wpAnyH_take (i := 6) (v := (.agg #[.int .i64 W, .bool Q, .int .i64 S])) rfl (by as_aux_lemma => kernel_rfl) (by as_aux_lemma => kernel_rfl) (by as_aux_lemma => kernel_rfl) (fun _ _ _ h => nomatch h.1) (Or.inl ⟨by kernel_rfl, ?_⟩) hS ?_
            · intro w hSw; (try dsimp only at hSw); obtain ⟨hSb, hl0, hl1, hl2, hl3, hl4, hl5, hl6, hl7⟩ := hSw; go_simp; all_goals (try omega)
            (try simp only [Act.put, List.getElem_toArray, List.getElem_cons_zero, List.getElem_cons_succ, List.setIfInBounds_toArray, List.set_cons_zero, List.set_cons_succ])
            refine wpAnyH_take (i := 7) (v := (.pointer (some ⟨w6.heap.size, 1, none⟩))) rfl (by as_aux_lemma => kernel_rfl) (by as_aux_lemma => kernel_rfl) (by as_aux_lemma => kernel_rfl) (fun _ _ _ h => nomatch h.1) (Or.inl ⟨by kernel_rfl, ?_⟩) hS ?_
            · intro w hSw; (try dsimp only at hSw); go_simp; all_goals (try omega)
            (try simp only [Act.put, List.getElem_toArray, List.getElem_cons_zero, List.getElem_cons_succ, List.setIfInBounds_toArray, List.set_cons_zero, List.set_cons_succ])
            refine wpAnyH_take (i := 8) (v := (.agg #[.int .i64 O1, .int .i64 O2])) rfl (by as_aux_lemma => kernel_rfl) (by as_aux_lemma => kernel_rfl) (by as_aux_lemma => kernel_rfl) (fun _ _ _ h => nomatch h.1) (Or.inl ⟨by kernel_rfl, ?_⟩) hS ?_
            · intro w hSw; (try dsimp only at hSw); obtain ⟨hSb, hl0, hl1, hl2, hl3, hl4, hl5, hl6, hl7⟩ := hSw; go_simp; all_goals (try omega)
            (try simp only [Act.put, List.getElem_toArray, List.getElem_cons_zero, List.getElem_cons_succ, List.setIfInBounds_toArray, List.set_cons_zero, List.set_cons_succ])
            refine wpAnyH_take (i := 11) (v := (.agg #[.int .i64 L, .int .i64 R])) rfl (by as_aux_lemma => kernel_rfl) (by as_aux_lemma => kernel_rfl) (by as_aux_lemma => kernel_rfl) (fun _ _ _ h => nomatch h.1) (Or.inl ⟨by kernel_rfl, ?_⟩) hS ?_
            · intro w hSw; (try dsimp only at hSw); obtain ⟨hSb, hl0, hl1, hl2, hl3, hl4, hl5, hl6, hl7⟩ := hSw; go_simp; all_goals (try omega)
            (try simp only [Act.put, List.getElem_toArray, List.getElem_cons_zero, List.getElem_cons_succ, List.setIfInBounds_toArray, List.set_cons_zero, List.set_cons_succ])
            refine wpAnyH_ready (rs := [9]) (by as_aux_lemma => kernel_rfl) (by simp) ?_
            refine AllReadyH.cons rfl (fun K hK => ?_) AllReadyH.nil
            go_simp
            refine Calls.mono (HMB.out _ ry.read) ?_
            rintro e w9 ⟨rfl, hc⟩
            have s9 : D7.heap.size ≤ w9.heap.size := hc.size
            have bq := hc
            replace cF0 := cell_later bq cF0
            replace zF := Nat.lt_of_lt_of_le zF bq.size
            replace cL0 := cell_later bq cL0
            replace cL1 := cell_later bq cL1
            replace cL2 := cell_later bq cL2
            replace zL := Nat.lt_of_lt_of_le zL bq.size
            replace cP0 := cell_later bq cP0
            replace cP1 := cell_later bq cP1
            replace zP := Nat.lt_of_lt_of_le zP bq.size
            replace cA0 := cell_later bq cA0
            replace cA1 := cell_later bq cA1
            replace cA2 := cell_later bq cA2
            replace zA := Nat.lt_of_lt_of_le zA bq.size
            replace cE0 := cell_later bq cE0
            replace cE1 := cell_later bq cE1
            replace cE2 := cell_later bq cE2
            replace zE := Nat.lt_of_lt_of_le zE bq.size
            replace cZ0 := cell_later bq cZ0
            replace cZ1 := cell_later bq cZ1
            replace cZ2 := cell_later bq cZ2
            replace zZ := Nat.lt_of_lt_of_le zZ bq.size
            replace cG0 := cell_later bq cG0
            replace cG1 := cell_later bq cG1
            replace cG2 := cell_later bq cG2
            replace zG := Nat.lt_of_lt_of_le zG bq.size
            replace cO0 := cell_later bq cO0
            replace cO1 := cell_later bq cO1
            replace cO2 := cell_later bq cO2
            replace zO := Nat.lt_of_lt_of_le zO bq.size
            replace ry := ry.below bq
            replace hb := hb.trans (bq.mono hb.size)
            clear hc bq
            refine hK.out _ _ (⟨hb, cF0, cL0, cL1, cL2, cO1, cO2, cP0, cP1⟩) (fun hS => ?_)
            clear hK K
            (try simp only [Act.put, List.getElem_toArray, List.getElem_cons_zero, List.getElem_cons_succ, List.setIfInBounds_toArray, List.set_cons_zero, List.set_cons_succ])
            refine wpAnyH_take (i := 10) (v := (.agg #[.int .i64 L, .int .i64 R])) rfl (by as_aux_lemma => kernel_rfl) (by as_aux_lemma => kernel_rfl) (by as_aux_lemma => kernel_rfl) (fun _ _ _ h => nomatch h.1) (Or.inl ⟨by kernel_rfl, ?_⟩) hS ?_
            · intro w hSw; (try dsimp only at hSw); go_simp; all_goals (try omega)
            (try simp only [Act.put, List.getElem_toArray, List.getElem_cons_zero, List.getElem_cons_succ, List.setIfInBounds_toArray, List.set_cons_zero, List.set_cons_succ])
            refine wpAnyH_take (i := 12) (v := (.bool false)) rfl (by as_aux_lemma => kernel_rfl) (by as_aux_lemma => kernel_rfl) (by as_aux_lemma => kernel_rfl) (fun _ _ _ h => nomatch h.1) (Or.inl ⟨by kernel_rfl, ?_⟩) hS ?_
            · intro w hSw; (try dsimp only at hSw); go_simp; all_goals (try omega)
            (try simp only [Act.put, List.getElem_toArray, List.getElem_cons_zero, List.getElem_cons_succ, List.setIfInBounds_toArray, List.set_cons_zero, List.set_cons_succ])
            refine wpAnyH_take (i := 13) (v := (.bool false)) rfl (by as_aux_lemma => kernel_rfl) (by as_aux_lemma => kernel_rfl) (by as_aux_lemma => kernel_rfl) (fun _ _ _ h => nomatch h.1) (Or.inl ⟨by kernel_rfl, ?_⟩) hS ?_
            · intro w hSw; (try dsimp only at hSw); go_simp; all_goals (try omega)
            (try simp only [Act.put, List.getElem_toArray, List.getElem_cons_zero, List.getElem_cons_succ, List.setIfInBounds_toArray, List.set_cons_zero, List.set_cons_succ])
            refine wpAnyH_done (by kernel_rfl) ?_ _
            refine ⟨rfl, (.pointer (some ⟨w6.heap.size, 1, none⟩)), (.agg #[.int .i64 O1, .int .i64 O2]), (.agg #[.int .i64 L, .int .i64 R]), (.bool true), (.bool true), (.agg #[.slice ay ys.length ky]), (.agg #[.int .i64 W, .bool Q, .int .i64 S]), (.pointer (some ⟨w6.heap.size, 1, none⟩)), (.agg #[.int .i64 O1, .int .i64 O2]), (.agg #[.int .i64 0, .int .i64 L, .int .i64 R]), (.agg #[.int .i64 L, .int .i64 R]), (.agg #[.int .i64 L, .int .i64 R]), (.bool false), ?_, hb, ry, cF0, zF, cL0, cL1, cL2, zL, cP0, cP1, zP, cA0, cA1, cA2, zA, cE0, cE1, cE2, zE, cZ0, cZ1, cZ2, zZ, cG0, cG1, cG2, zG, cO0, cO1, cO2, zO⟩
            (try simp only [Act.put, List.getElem_toArray, List.getElem_cons_zero, List.getElem_cons_succ, List.setIfInBounds_toArray, List.set_cons_zero, List.set_cons_succ])
        · skip
          rintro a' w27 ⟨x71, x72, x73, x74, x75, x76, x77, x78, x79, x80, x81, x82, x83, rfl, hb, ry, cF0, zF, cL0, cL1, cL2, zL, cP0, cP1, zP, cA0, cA1, cA2, zA, cE0, cE1, cE2, zE, cZ0, cZ1, cZ2, zZ, cG0, cG1, cG2, zG, cO0, cO1, cO2, zO⟩
          clear m6 MB
          simp only [Act.put, List.getElem_toArray, List.getElem_cons_zero, List.getElem_cons_succ, List.setIfInBounds_toArray, List.set_cons_zero, List.set_cons_succ]
          go_wp2_with fail
          refine Calls.mono (HIT.out _ hb) ?_
          rintro e w28 ⟨rfl, hc⟩
          have s28 : w27.heap.size ≤ w28.heap.size := hc.size
          have bq := hc
          replace cF0 := cell_later bq cF0
          replace zF := Nat.lt_of_lt_of_le zF bq.size
          replace cL0 := cell_later bq cL0
          replace cL1 := cell_later bq cL1
          replace cL2 := cell_later bq cL2
          replace zL := Nat.lt_of_lt_of_le zL bq.size
          replace cP0 := cell_later bq cP0
          replace cP1 := cell_later bq cP1
          replace zP := Nat.lt_of_lt_of_le zP bq.size
          replace cA0 := cell_later bq cA0
          replace cA1 := cell_later bq cA1
          replace cA2 := cell_later bq cA2
          replace zA := Nat.lt_of_lt_of_le zA bq.size
          replace cE0 := cell_later bq cE0
          replace cE1 := cell_later bq cE1
          replace cE2 := cell_later bq cE2
          replace zE := Nat.lt_of_lt_of_le zE bq.size
          replace cZ0 := cell_later bq cZ0
          replace cZ1 := cell_later bq cZ1
          replace cZ2 := cell_later bq cZ2
          replace zZ := Nat.lt_of_lt_of_le zZ bq.size
          replace cG0 := cell_later bq cG0
          replace cG1 := cell_later bq cG1
          replace cG2 := cell_later bq cG2
          replace zG := Nat.lt_of_lt_of_le zG bq.size
          replace cO0 := cell_later bq cO0
          replace cO1 := cell_later bq cO1
          replace cO2 := cell_later bq cO2
          replace zO := Nat.lt_of_lt_of_le zO bq.size
          replace ry := ry.below bq
          replace hb := hb.trans (bq.mono hb.size)
          clear hc bq
          go_wp2_with fail
          have bp : ∀ o0, Below w28.heap.size w28 (w28.alloc o0) := fun o0 => (Below.refl _ _).alloc (Nat.le_refl _) o0
          have hbt : ∀ o0, Below w.heap.size w (w28.alloc o0) := fun o0 => hb.trans ((bp o0).mono hb.size)
          obtain ⟨w29, hw29⟩ : ∃ x, (w28.alloc (.cells #[.int .i64 c, .string T] 36)) = x := ⟨_, rfl⟩
          have hc : Below ((w28.alloc (.cells #[.int .i64 c, .string T] 36))).heap.size ((w28.alloc (.cells #[.int .i64 c, .string T] 36))) w29 := hw29 ▸ Below.refl _ _
          have s29 : w28.heap.size + 1 ≤ w29.heap.size := by have := hc.size; simp at this; omega
          have bq : Below w28.heap.size w28 w29 := (bp _).trans (hc.mono (bp _).size)
          replace cF0 := cell_later bq cF0
          replace zF := Nat.lt_of_lt_of_le zF bq.size
          replace cL0 := cell_later bq cL0
          replace cL1 := cell_later bq cL1
          replace cL2 := cell_later bq cL2
          replace zL := Nat.lt_of_lt_of_le zL bq.size
          replace cP0 := cell_later bq cP0
          replace cP1 := cell_later bq cP1
          replace zP := Nat.lt_of_lt_of_le zP bq.size
          replace cA0 := cell_later bq cA0
          replace cA1 := cell_later bq cA1
          replace cA2 := cell_later bq cA2
          replace zA := Nat.lt_of_lt_of_le zA bq.size
          replace cE0 := cell_later bq cE0
          replace cE1 := cell_later bq cE1
          replace cE2 := cell_later bq cE2
          replace zE := Nat.lt_of_lt_of_le zE bq.size
          replace cZ0 := cell_later bq cZ0
          replace cZ1 := cell_later bq cZ1
          replace cZ2 := cell_later bq cZ2
          replace zZ := Nat.lt_of_lt_of_le zZ bq.size
          replace cG0 := cell_later bq cG0
          replace cG1 := cell_later bq cG1
          replace cG2 := cell_later bq cG2
          replace zG := Nat.lt_of_lt_of_le zG bq.size
          replace cO0 := cell_later bq cO0
          replace cO1 := cell_later bq cO1
          replace cO2 := cell_later bq cO2
          replace zO := Nat.lt_of_lt_of_le zO bq.size
          have cT0 : w29.cell? ⟨w28.heap.size, 0, none⟩ = some (.int .i64 c) := cell_later hc (by simp [go_sem])
          have cT1 : w29.cell? ⟨w28.heap.size, 1, none⟩ = some (.string T) := cell_later hc (by simp [go_sem])
          have zT : w28.heap.size < w29.heap.size := by omega
          replace ry := ry.below bq
          replace hb := hb.trans (bq.mono hb.size)
          clear hc bq bp hbt
          rw [hw29]
          clear hw29
          obtain ⟨cb, hcb⟩ : ∃ cb, (c != 0) = cb := ⟨_, rfl⟩
          have hTe0 : cb = false → T.toList.isEmpty = false := fun h => HTT.out.resolve_left (fun h2 => by rw [← hcb] at h; exact h2 (by simpa using h))
          have HTE := hid hTe0
          clear HTT hTe0
          have bd : Below w29.heap.size w29 w29.drew := (Below.refl _ _).drew
          refine wp_region_held_drew (S := fun w' => Below w.heap.size w w' ∧ w'.cell? ⟨w2.heap.size, 1, none⟩ = some (.int .i64 A1) ∧ w'.cell? ⟨w2.heap.size, 2, none⟩ = some (.int .i64 A2) ∧ w'.cell? ⟨w3.heap.size, 1, none⟩ = some (.int .i64 E1) ∧ w'.cell? ⟨w3.heap.size, 2, none⟩ = some (.int .i64 E2) ∧ w'.cell? ⟨w1.heap.size, 0, none⟩ = some (.slice ay ys.length ky) ∧ w'.cell? ⟨w5.heap.size, 0, none⟩ = some (.int .i64 0) ∧ w'.cell? ⟨w5.heap.size, 1, none⟩ = some (.int .i64 L) ∧ w'.cell? ⟨w5.heap.size, 2, none⟩ = some (.int .i64 R) ∧ w'.cell? ⟨w1.heap.size + 1, 0, none⟩ = some (.int .i64 W) ∧ w'.cell? ⟨w1.heap.size + 1, 1, none⟩ = some (.bool Q) ∧ w'.cell? ⟨w1.heap.size + 1, 2, none⟩ = some (.int .i64 S) ∧ w'.cell? ⟨w1.heap.size + 1 + 1, 0, none⟩ = some (.int .i64 L) ∧ w'.cell? ⟨w1.heap.size + 1 + 1, 1, none⟩ = some (.int .i64 R) ∧ w'.cell? ⟨w28.heap.size, 0, none⟩ = some (.int .i64 c) ∧ w'.cell? ⟨w28.heap.size, 1, none⟩ = some (.string T) ∧ w'.cell? ⟨w4.heap.size, 1, none⟩ = some (.int .i64 0) ∧ w'.cell? ⟨w4.heap.size, 2, none⟩ = some (.int .i64 0)) (by kernel_rfl) ⟨(hb.trans (bd.mono hb.size)), cell_later bd cA1, cell_later bd cA2, cell_later bd cE1, cell_later bd cE2, cell_later bd cF0, cell_later bd cG0, cell_later bd cG1, cell_later bd cG2, cell_later bd cL0, cell_later bd cL1, cell_later bd cL2, cell_later bd cP0, cell_later bd cP1, cell_later bd cT0, cell_later bd cT1, cell_later bd cZ1, cell_later bd cZ2⟩ (fun hS => ?_)
          obtain ⟨D29, hD⟩ : ∃ D, w29.drew = D := ⟨_, rfl⟩
          rw [hD] at hS bd ⊢
          have hc := bd
          clear hD bd
          have s30 : w29.heap.size ≤ D29.heap.size := hc.size
          have bq := hc
          replace cF0 := cell_later bq cF0
          replace zF := Nat.lt_of_lt_of_le zF bq.size
          replace cL0 := cell_later bq cL0
          replace cL1 := cell_later bq cL1
          replace cL2 := cell_later bq cL2
          replace zL := Nat.lt_of_lt_of_le zL bq.size
          replace cP0 := cell_later bq cP0
          replace cP1 := cell_later bq cP1
          replace zP := Nat.lt_of_lt_of_le zP bq.size
          replace cA0 := cell_later bq cA0
          replace cA1 := cell_later bq cA1
          replace cA2 := cell_later bq cA2
          replace zA := Nat.lt_of_lt_of_le zA bq.size
          replace cE0 := cell_later bq cE0
          replace cE1 := cell_later bq cE1
          replace cE2 := cell_later bq cE2
          replace zE := Nat.lt_of_lt_of_le zE bq.size
          replace cZ0 := cell_later bq cZ0
          replace cZ1 := cell_later bq cZ1
          replace cZ2 := cell_later bq cZ2
          replace zZ := Nat.lt_of_lt_of_le zZ bq.size
          replace cG0 := cell_later bq cG0
          replace cG1 := cell_later bq cG1
          replace cG2 := cell_later bq cG2
          replace zG := Nat.lt_of_lt_of_le zG bq.size
          replace cO0 := cell_later bq cO0
          replace cO1 := cell_later bq cO1
          replace cO2 := cell_later bq cO2
          replace zO := Nat.lt_of_lt_of_le zO bq.size
          replace cT0 := cell_later bq cT0
          replace cT1 := cell_later bq cT1
          replace zT := Nat.lt_of_lt_of_le zT bq.size
          replace ry := ry.below bq
          replace hb := hb.trans (bq.mono hb.size)
          clear hc bq
          refine wpAnyH_take (i := 0) (v := (.agg #[.slice ay ys.length ky])) rfl (by as_aux_lemma => kernel_rfl) (by as_aux_lemma => kernel_rfl) (by as_aux_lemma => kernel_rfl) (fun _ _ _ h => h) (Or.inl ⟨by kernel_rfl, ?_⟩) hS ?_
          · intro w hSw; (try dsimp only at hSw); obtain ⟨hSb, hl0, hl1, hl2, hl3, hl4, hl5, hl6, hl7, hl8, hl9, hl10, hl11, hl12, hl13, hl14, hl15, hl16⟩ := hSw; go_simp; all_goals (try omega)
          (try simp only [Act.put, List.getElem_toArray, List.getElem_cons_zero, List.getElem_cons_succ, List.setIfInBounds_toArray, List.set_cons_zero, List.set_cons_succ])
          refine wpAnyH_take (i := 1) (v := (.agg #[.int .i64 W, .bool Q, .int .i64 S])) rfl (by as_aux_lemma => kernel_rfl) (by as_aux_lemma => kernel_rfl) (by as_aux_lemma => kernel_rfl) (fun _ _ _ h => h) (Or.inl ⟨by kernel_rfl, ?_⟩) hS ?_
          · intro w hSw; (try dsimp only at hSw); obtain ⟨hSb, hl0, hl1, hl2, hl3, hl4, hl5, hl6, hl7, hl8, hl9, hl10, hl11, hl12, hl13, hl14, hl15, hl16⟩ := hSw; go_simp; all_goals (try omega)
          (try simp only [Act.put, List.getElem_toArray, List.getElem_cons_zero, List.getElem_cons_succ, List.setIfInBounds_toArray, List.set_cons_zero, List.set_cons_succ])
          refine wpAnyH_take (i := 2) (v := (.pointer (some ⟨w2.heap.size, 1, none⟩))) rfl (by as_aux_lemma => kernel_rfl) (by as_aux_lemma => kernel_rfl) (by as_aux_lemma => kernel_rfl) (fun _ _ _ h => h) (Or.inl ⟨by kernel_rfl, ?_⟩) hS ?_
          · intro w hSw; (try dsimp only at hSw); go_simp; all_goals (try omega)
          (try simp only [Act.put, List.getElem_toArray, List.getElem_cons_zero, List.getElem_cons_succ, List.setIfInBounds_toArray, List.set_cons_zero, List.set_cons_succ])
          refine wpAnyH_take (i := 3) (v := (.agg #[.int .i64 A1, .int .i64 A2])) rfl (by as_aux_lemma => kernel_rfl) (by as_aux_lemma => kernel_rfl) (by as_aux_lemma => kernel_rfl) (fun _ _ _ h => h) (Or.inl ⟨by kernel_rfl, ?_⟩) hS ?_
          · intro w hSw; (try dsimp only at hSw); obtain ⟨hSb, hl0, hl1, hl2, hl3, hl4, hl5, hl6, hl7, hl8, hl9, hl10, hl11, hl12, hl13, hl14, hl15, hl16⟩ := hSw; go_simp; all_goals (try omega)
          (try simp only [Act.put, List.getElem_toArray, List.getElem_cons_zero, List.getElem_cons_succ, List.setIfInBounds_toArray, List.set_cons_zero, List.set_cons_succ])
          refine wpAnyH_ready (rs := [4]) (by as_aux_lemma => kernel_rfl) (by simp) ?_
          refine AllReadyH.cons rfl (fun K hK => ?_) AllReadyH.nil
          go_simp
          refine Calls.mono (HFA.out _ ry.read) ?_
          rintro e w31 ⟨rfl, hc⟩
          have s31 : D29.heap.size ≤ w31.heap.size := hc.size
          have bq := hc
          replace cF0 := cell_later bq cF0
          replace zF := Nat.lt_of_lt_of_le zF bq.size
          replace cL0 := cell_later bq cL0
          replace cL1 := cell_later bq cL1
          replace cL2 := cell_later bq cL2
          replace zL := Nat.lt_of_lt_of_le zL bq.size
          replace cP0 := cell_later bq cP0
          replace cP1 := cell_later bq cP1
          replace zP := Nat.lt_of_lt_of_le zP bq.size
          replace cA0 := cell_later bq cA0
          replace cA1 := cell_later bq cA1
          replace cA2 := cell_later bq cA2
          replace zA := Nat.lt_of_lt_of_le zA bq.size
          replace cE0 := cell_later bq cE0
          replace cE1 := cell_later bq cE1
          replace cE2 := cell_later bq cE2
          replace zE := Nat.lt_of_lt_of_le zE bq.size
          replace cZ0 := cell_later bq cZ0
          replace cZ1 := cell_later bq cZ1
          replace cZ2 := cell_later bq cZ2
          replace zZ := Nat.lt_of_lt_of_le zZ bq.size
          replace cG0 := cell_later bq cG0
          replace cG1 := cell_later bq cG1
          replace cG2 := cell_later bq cG2
          replace zG := Nat.lt_of_lt_of_le zG bq.size
          replace cO0 := cell_later bq cO0
          replace cO1 := cell_later bq cO1
          replace cO2 := cell_later bq cO2
          replace zO := Nat.lt_of_lt_of_le zO bq.size
          replace cT0 := cell_later bq cT0
          replace cT1 := cell_later bq cT1
          replace zT := Nat.lt_of_lt_of_le zT bq.size
          replace ry := ry.below bq
          replace hb := hb.trans (bq.mono hb.size)
          clear hc bq
          refine hK.out _ _ (⟨hb, cA1, cA2, cE1, cE2, cF0, cG0, cG1, cG2, cL0, cL1, cL2, cP0, cP1, cT0, cT1, cZ1, cZ2⟩) (fun hS => ?_)
          clear hK K
          (try simp only [Act.put, List.getElem_toArray, List.getElem_cons_zero, List.getElem_cons_succ, List.setIfInBounds_toArray, List.set_cons_zero, List.set_cons_succ])
          refine wpAnyH_take (i := 5) (v := (.bool true)) rfl (by as_aux_lemma => kernel_rfl) (by as_aux_lemma => kernel_rfl) (by as_aux_lemma => kernel_rfl) (fun _ _ _ h => h) (Or.inl ⟨by kernel_rfl, ?_⟩) hS ?_
          · intro w hSw; (try dsimp only at hSw); go_simp; all_goals (try omega)
          (try simp only [Act.put, List.getElem_toArray, List.getElem_cons_zero, List.getElem_cons_succ, List.setIfInBounds_toArray, List.set_cons_zero, List.set_cons_succ])
          refine wpAnyH_take (i := 6) (v := (.bool true)) rfl (by as_aux_lemma => kernel_rfl) (by as_aux_lemma => kernel_rfl) (by as_aux_lemma => kernel_rfl) (fun _ _ _ h => h) (Or.inl ⟨by kernel_rfl, ?_⟩) hS ?_
          · intro w hSw; (try dsimp only at hSw); go_simp; all_goals (try omega)
          (try simp only [Act.put, List.getElem_toArray, List.getElem_cons_zero, List.getElem_cons_succ, List.setIfInBounds_toArray, List.set_cons_zero, List.set_cons_succ])
          refine wpAnyH_take (i := 7) (v := (.bool true)) rfl (by as_aux_lemma => kernel_rfl) (by as_aux_lemma => kernel_rfl) (by as_aux_lemma => kernel_rfl) (fun _ _ _ h => h) (Or.inl ⟨by kernel_rfl, ?_⟩) hS ?_
          · intro w hSw; (try dsimp only at hSw); go_simp; all_goals (try omega)
          (try simp only [Act.put, List.getElem_toArray, List.getElem_cons_zero, List.getElem_cons_succ, List.setIfInBounds_toArray, List.set_cons_zero, List.set_cons_succ])
          refine wpAnyH_take (i := 8) (v := (.bool false)) rfl (by as_aux_lemma => kernel_rfl) (by as_aux_lemma => kernel_rfl) (by as_aux_lemma => kernel_rfl) (fun _ _ _ h => h) (Or.inl ⟨by kernel_rfl, ?_⟩) hS ?_
          · intro w hSw; (try dsimp only at hSw); go_simp; all_goals (try omega)
          (try simp only [Act.put, List.getElem_toArray, List.getElem_cons_zero, List.getElem_cons_succ, List.setIfInBounds_toArray, List.set_cons_zero, List.set_cons_succ])
          refine wpAnyH_take (i := 9) (v := (.bool false)) rfl (by as_aux_lemma => kernel_rfl) (by as_aux_lemma => kernel_rfl) (by as_aux_lemma => kernel_rfl) (fun _ _ _ h => h) (Or.inl ⟨by kernel_rfl, ?_⟩) hS ?_
          · intro w hSw; (try dsimp only at hSw); go_simp; all_goals (try omega)
          (try simp only [Act.put, List.getElem_toArray, List.getElem_cons_zero, List.getElem_cons_succ, List.setIfInBounds_toArray, List.set_cons_zero, List.set_cons_succ])
          refine wpAnyH_take (i := 10) (v := (.pointer (some ⟨w5.heap.size, 1, none⟩))) rfl (by as_aux_lemma => kernel_rfl) (by as_aux_lemma => kernel_rfl) (by as_aux_lemma => kernel_rfl) (fun _ _ _ h => h) (Or.inl ⟨by kernel_rfl, ?_⟩) hS ?_
          · intro w hSw; (try dsimp only at hSw); go_simp; all_goals (try omega)
          (try simp only [Act.put, List.getElem_toArray, List.getElem_cons_zero, List.getElem_cons_succ, List.setIfInBounds_toArray, List.set_cons_zero, List.set_cons_succ])
          refine wpAnyH_take (i := 11) (v := (.agg #[.int .i64 L, .int .i64 R])) rfl (by as_aux_lemma => kernel_rfl) (by as_aux_lemma => kernel_rfl) (by as_aux_lemma => kernel_rfl) (fun _ _ _ h => h) (Or.inl ⟨by kernel_rfl, ?_⟩) hS ?_
          · intro w hSw; (try dsimp only at hSw); obtain ⟨hSb, hl0, hl1, hl2, hl3, hl4, hl5, hl6, hl7, hl8, hl9, hl10, hl11, hl12, hl13, hl14, hl15, hl16⟩ := hSw; go_simp; all_goals (try omega)
          (try simp only [Act.put, List.getElem_toArray, List.getElem_cons_zero, List.getElem_cons_succ, List.setIfInBounds_toArray, List.set_cons_zero, List.set_cons_succ])
          refine wpAnyH_take (i := 12) (v := (.agg #[.int .i64 L, .int .i64 R])) rfl (by as_aux_lemma => kernel_rfl) (by as_aux_lemma => kernel_rfl) (by as_aux_lemma => kernel_rfl) (fun _ _ _ h => h) (Or.inl ⟨by kernel_rfl, ?_⟩) hS ?_
          · intro w hSw; (try dsimp only at hSw); obtain ⟨hSb, hl0, hl1, hl2, hl3, hl4, hl5, hl6, hl7, hl8, hl9, hl10, hl11, hl12, hl13, hl14, hl15, hl16⟩ := hSw; go_simp; all_goals (try omega)
          (try simp only [Act.put, List.getElem_toArray, List.getElem_cons_zero, List.getElem_cons_succ, List.setIfInBounds_toArray, List.set_cons_zero, List.set_cons_succ])
          refine wpAnyH_take (i := 13) (v := (.bool true)) rfl (by as_aux_lemma => kernel_rfl) (by as_aux_lemma => kernel_rfl) (by as_aux_lemma => kernel_rfl) (fun _ _ _ h => h) (Or.inl ⟨by kernel_rfl, ?_⟩) hS ?_
          · intro w hSw; (try dsimp only at hSw); go_simp; all_goals (try omega)
          (try simp only [Act.put, List.getElem_toArray, List.getElem_cons_zero, List.getElem_cons_succ, List.setIfInBounds_toArray, List.set_cons_zero, List.set_cons_succ])
          refine wpAnyH_take (i := 14) (v := (.bool true)) rfl (by as_aux_lemma => kernel_rfl) (by as_aux_lemma => kernel_rfl) (by as_aux_lemma => kernel_rfl) (fun _ _ _ h => h) (Or.inl ⟨by kernel_rfl, ?_⟩) hS ?_
          · intro w hSw; (try dsimp only at hSw); go_simp; all_goals (try omega)
          (try simp only [Act.put, List.getElem_toArray, List.getElem_cons_zero, List.getElem_cons_succ, List.setIfInBounds_toArray, List.set_cons_zero, List.set_cons_succ])
          refine wpAnyH_take (i := 15) (v := (.bool true)) rfl (by as_aux_lemma => kernel_rfl) (by as_aux_lemma => kernel_rfl) (by as_aux_lemma => kernel_rfl) (fun _ _ _ h => h) (Or.inl ⟨by kernel_rfl, ?_⟩) hS ?_
          · intro w hSw; (try dsimp only at hSw); go_simp; all_goals (try omega)
          (try simp only [Act.put, List.getElem_toArray, List.getElem_cons_zero, List.getElem_cons_succ, List.setIfInBounds_toArray, List.set_cons_zero, List.set_cons_succ])
          refine wpAnyH_take (i := 16) (v := (.bool true)) rfl (by as_aux_lemma => kernel_rfl) (by as_aux_lemma => kernel_rfl) (by as_aux_lemma => kernel_rfl) (fun _ _ _ h => h) (Or.inl ⟨by kernel_rfl, ?_⟩) hS ?_
          · intro w hSw; (try dsimp only at hSw); go_simp; all_goals (try omega)
          (try simp only [Act.put, List.getElem_toArray, List.getElem_cons_zero, List.getElem_cons_succ, List.setIfInBounds_toArray, List.set_cons_zero, List.set_cons_succ])
          refine wpAnyH_take (i := 17) (v := (.pointer (some ⟨w5.heap.size, 0, none⟩))) rfl (by as_aux_lemma => kernel_rfl) (by as_aux_lemma => kernel_rfl) (by as_aux_lemma => kernel_rfl) (fun _ _ _ h => h) (Or.inl ⟨by kernel_rfl, ?_⟩) hS ?_
          · intro w hSw; (try dsimp only at hSw); go_simp; all_goals (try omega)
          (try simp only [Act.put, List.getElem_toArray, List.getElem_cons_zero, List.getElem_cons_succ, List.setIfInBounds_toArray, List.set_cons_zero, List.set_cons_succ])
          refine wpAnyH_take (i := 18) (v := (.int .i64 0)) rfl (by as_aux_lemma => kernel_rfl) (by as_aux_lemma => kernel_rfl) (by as_aux_lemma => kernel_rfl) (fun _ _ _ h => h) (Or.inl ⟨by kernel_rfl, ?_⟩) hS ?_
          · intro w hSw; (try dsimp only at hSw); obtain ⟨hSb, hl0, hl1, hl2, hl3, hl4, hl5, hl6, hl7, hl8, hl9, hl10, hl11, hl12, hl13, hl14, hl15, hl16⟩ := hSw; go_simp; all_goals (try omega)
          (try simp only [Act.put, List.getElem_toArray, List.getElem_cons_zero, List.getElem_cons_succ, List.setIfInBounds_toArray, List.set_cons_zero, List.set_cons_succ])
          refine wpAnyH_take (i := 19) (v := (.bool true)) rfl (by as_aux_lemma => kernel_rfl) (by as_aux_lemma => kernel_rfl) (by as_aux_lemma => kernel_rfl) (fun _ _ _ h => h) (Or.inl ⟨by kernel_rfl, ?_⟩) hS ?_
          · intro w hSw; (try dsimp only at hSw); go_simp; all_goals (try omega)
          (try simp only [Act.put, List.getElem_toArray, List.getElem_cons_zero, List.getElem_cons_succ, List.setIfInBounds_toArray, List.set_cons_zero, List.set_cons_succ])
          refine wpAnyH_take (i := 20) (v := (.bool true)) rfl (by as_aux_lemma => kernel_rfl) (by as_aux_lemma => kernel_rfl) (by as_aux_lemma => kernel_rfl) (fun _ _ _ h => h) (Or.inl ⟨by kernel_rfl, ?_⟩) hS ?_
          · intro w hSw; (try dsimp only at hSw); go_simp; all_goals (try omega)
          (try simp only [Act.put, List.getElem_toArray, List.getElem_cons_zero, List.getElem_cons_succ, List.setIfInBounds_toArray, List.set_cons_zero, List.set_cons_succ])
          refine wpAnyH_take (i := 21) (v := (.bool true)) rfl (by as_aux_lemma => kernel_rfl) (by as_aux_lemma => kernel_rfl) (by as_aux_lemma => kernel_rfl) (fun _ _ _ h => h) (Or.inl ⟨by kernel_rfl, ?_⟩) hS ?_
          · intro w hSw; (try dsimp only at hSw); go_simp; all_goals (try omega)
          (try simp only [Act.put, List.getElem_toArray, List.getElem_cons_zero, List.getElem_cons_succ, List.setIfInBounds_toArray, List.set_cons_zero, List.set_cons_succ])
          refine wpAnyH_take (i := 22) (v := (.pointer (some ⟨w4.heap.size, 1, none⟩))) rfl (by as_aux_lemma => kernel_rfl) (by as_aux_lemma => kernel_rfl) (by as_aux_lemma => kernel_rfl) (fun _ _ _ h => h) (Or.inl ⟨by kernel_rfl, ?_⟩) hS ?_
          · intro w hSw; (try dsimp only at hSw); go_simp; all_goals (try omega)
          (try simp only [Act.put, List.getElem_toArray, List.getElem_cons_zero, List.getElem_cons_succ, List.setIfInBounds_toArray, List.set_cons_zero, List.set_cons_succ])
          refine wpAnyH_take (i := 23) (v := (.agg #[.int .i64 0, .int .i64 0])) rfl (by as_aux_lemma => kernel_rfl) (by as_aux_lemma => kernel_rfl) (by as_aux_lemma => kernel_rfl) (fun _ _ _ h => h) (Or.inl ⟨by kernel_rfl, ?_⟩) hS ?_
          · intro w hSw; (try dsimp only at hSw); obtain ⟨hSb, hl0, hl1, hl2, hl3, hl4, hl5, hl6, hl7, hl8, hl9, hl10, hl11, hl12, hl13, hl14, hl15, hl16⟩ := hSw; go_simp; all_goals (try omega)
          (try simp only [Act.put, List.getElem_toArray, List.getElem_cons_zero, List.getElem_cons_succ, List.setIfInBounds_toArray, List.set_cons_zero, List.set_cons_succ])
          refine wpAnyH_take (i := 24) (v := (.agg #[.int .i64 0, .int .i64 0])) rfl (by as_aux_lemma => kernel_rfl) (by as_aux_lemma => kernel_rfl) (by as_aux_lemma => kernel_rfl) (fun _ _ _ h => h) (Or.inl ⟨by kernel_rfl, ?_⟩) hS ?_
          · intro w hSw; (try dsimp only at hSw); go_simp; all_goals (try omega)
          (try simp only [Act.put, List.getElem_toArray, List.getElem_cons_zero, List.getElem_cons_succ, List.setIfInBounds_toArray, List.set_cons_zero, List.set_cons_succ])
          refine wpAnyH_take (i := 25) (v := (.bool true)) rfl (by as_aux_lemma => kernel_rfl) (by as_aux_lemma => kernel_rfl) (by as_aux_lemma => kernel_rfl) (fun _ _ _ h => h) (Or.inl ⟨by kernel_rfl, ?_⟩) hS ?_
          · intro w hSw; (try dsimp only at hSw); go_simp; all_goals (try omega)
          (try simp only [Act.put, List.getElem_toArray, List.getElem_cons_zero, List.getElem_cons_succ, List.setIfInBounds_toArray, List.set_cons_zero, List.set_cons_succ])
          refine wpAnyH_take (i := 26) (v := (.bool true)) rfl (by as_aux_lemma => kernel_rfl) (by as_aux_lemma => kernel_rfl) (by as_aux_lemma => kernel_rfl) (fun _ _ _ h => h) (Or.inl ⟨by kernel_rfl, ?_⟩) hS ?_
          · intro w hSw; (try dsimp only at hSw); go_simp; all_goals (try omega)
          (try simp only [Act.put, List.getElem_toArray, List.getElem_cons_zero, List.getElem_cons_succ, List.setIfInBounds_toArray, List.set_cons_zero, List.set_cons_succ])
          refine wpAnyH_take (i := 27) (v := (.bool true)) rfl (by as_aux_lemma => kernel_rfl) (by as_aux_lemma => kernel_rfl) (by as_aux_lemma => kernel_rfl) (fun _ _ _ h => h) (Or.inl ⟨by kernel_rfl, ?_⟩) hS ?_
          · intro w hSw; (try dsimp only at hSw); go_simp; all_goals (try omega)
          (try simp only [Act.put, List.getElem_toArray, List.getElem_cons_zero, List.getElem_cons_succ, List.setIfInBounds_toArray, List.set_cons_zero, List.set_cons_succ])
          refine wpAnyH_take (i := 28) (v := (.agg #[.slice ay ys.length ky])) rfl (by as_aux_lemma => kernel_rfl) (by as_aux_lemma => kernel_rfl) (by as_aux_lemma => kernel_rfl) (fun _ _ _ h => h) (Or.inl ⟨by kernel_rfl, ?_⟩) hS ?_
          · intro w hSw; (try dsimp only at hSw); obtain ⟨hSb, hl0, hl1, hl2, hl3, hl4, hl5, hl6, hl7, hl8, hl9, hl10, hl11, hl12, hl13, hl14, hl15, hl16⟩ := hSw; go_simp; all_goals (try omega)
          (try simp only [Act.put, List.getElem_toArray, List.getElem_cons_zero, List.getElem_cons_succ, List.setIfInBounds_toArray, List.set_cons_zero, List.set_cons_succ])
          refine wpAnyH_take (i := 29) (v := (.agg #[.int .i64 W, .bool Q, .int .i64 S])) rfl (by as_aux_lemma => kernel_rfl) (by as_aux_lemma => kernel_rfl) (by as_aux_lemma => kernel_rfl) (fun _ _ _ h => h) (Or.inl ⟨by kernel_rfl, ?_⟩) hS ?_
          · intro w hSw; (try dsimp only at hSw); obtain ⟨hSb, hl0, hl1, hl2, hl3, hl4, hl5, hl6, hl7, hl8, hl9, hl10, hl11, hl12, hl13, hl14, hl15, hl16⟩ := hSw; go_simp; all_goals (try omega)
          (try simp only [Act.put, List.getElem_toArray, List.getElem_cons_zero, List.getElem_cons_succ, List.setIfInBounds_toArray, List.set_cons_zero, List.set_cons_succ])
          refine wpAnyH_take (i := 30) (v := (.pointer (some ⟨w3.heap.size, 1, none⟩))) rfl (by as_aux_lemma => kernel_rfl) (by as_aux_lemma => kernel_rfl) (by as_aux_lemma => kernel_rfl) (fun _ _ _ h => h) (Or.inl ⟨by kernel_rfl, ?_⟩) hS ?_
          · intro w hSw; (try dsimp only at hSw); go_simp; all_goals (try omega)
          (try simp only [Act.put, List.getElem_toArray, List.getElem_cons_zero, List.getElem_cons_succ, List.setIfInBounds_toArray, List.set_cons_zero, List.set_cons_succ])
          refine wpAnyH_take (i := 31) (v := (.agg #[.int .i64 E1, .int .i64 E2])) rfl (by as_aux_lemma => kernel_rfl) (by as_aux_lemma => kernel_rfl) (by as_aux_lemma => kernel_rfl) (fun _ _ _ h => h) (Or.inl ⟨by kernel_rfl, ?_⟩) hS ?_
          · intro w hSw; (try dsimp only at hSw); obtain ⟨hSb, hl0, hl1, hl2, hl3, hl4, hl5, hl6, hl7, hl8, hl9, hl10, hl11, hl12, hl13, hl14, hl15, hl16⟩ := hSw; go_simp; all_goals (try omega)
          (try simp only [Act.put, List.getElem_toArray, List.getElem_cons_zero, List.getElem_cons_succ, List.setIfInBounds_toArray, List.set_cons_zero, List.set_cons_succ])
          refine wpAnyH_ready (rs := [32]) (by as_aux_lemma => kernel_rfl) (by simp) ?_
          refine AllReadyH.cons rfl (fun K hK => ?_) AllReadyH.nil
          go_simp
          refine Calls.mono (HFE.out _ ry.read) ?_
          rintro e w32 ⟨rfl, hc⟩
          have s32 : w31.heap.size ≤ w32.heap.size := hc.size
          have bq := hc
          replace cF0 := cell_later bq cF0
          replace zF := Nat.lt_of_lt_of_le zF bq.size
          replace cL0 := cell_later bq cL0
          replace cL1 := cell_later bq cL1
          replace cL2 := cell_later bq cL2
          replace zL := Nat.lt_of_lt_of_le zL bq.size
          replace cP0 := cell_later bq cP0
          replace cP1 := cell_later bq cP1
          replace zP := Nat.lt_of_lt_of_le zP bq.size
          replace cA0 := cell_later bq cA0
          replace cA1 := cell_later bq cA1
          replace cA2 := cell_later bq cA2
          replace zA := Nat.lt_of_lt_of_le zA bq.size
          replace cE0 := cell_later bq cE0
          replace cE1 := cell_later bq cE1
          replace cE2 := cell_later bq cE2
          replace zE := Nat.lt_of_lt_of_le zE bq.size
          replace cZ0 := cell_later bq cZ0
          replace cZ1 := cell_later bq cZ1
          replace cZ2 := cell_later bq cZ2
          replace zZ := Nat.lt_of_lt_of_le zZ bq.size
          replace cG0 := cell_later bq cG0
          replace cG1 := cell_later bq cG1
          replace cG2 := cell_later bq cG2
          replace zG := Nat.lt_of_lt_of_le zG bq.size
          replace cO0 := cell_later bq cO0
          replace cO1 := cell_later bq cO1
          replace cO2 := cell_later bq cO2
          replace zO := Nat.lt_of_lt_of_le zO bq.size
          replace cT0 := cell_later bq cT0
          replace cT1 := cell_later bq cT1
          replace zT := Nat.lt_of_lt_of_le zT bq.size
          replace ry := ry.below bq
          replace hb := hb.trans (bq.mono hb.size)
          clear hc bq
          refine hK.out _ _ (⟨hb, cA1, cA2, cE1, cE2, cF0, cG0, cG1, cG2, cL0, cL1, cL2, cP0, cP1, cT0, cT1, cZ1, cZ2⟩) (fun hS => ?_)
          clear hK K
          (try simp only [Act.put, List.getElem_toArray, List.getElem_cons_zero, List.getElem_cons_succ, List.setIfInBounds_toArray, List.set_cons_zero, List.set_cons_succ])
          refine wpAnyH_take (i := 33) (v := (.bool true)) rfl (by as_aux_lemma => kernel_rfl) (by as_aux_lemma => kernel_rfl) (by as_aux_lemma => kernel_rfl) (fun _ _ _ h => h) (Or.inl ⟨by kernel_rfl, ?_⟩) hS ?_
          · intro w hSw; (try dsimp only at hSw); go_simp; all_goals (try omega)
          (try simp only [Act.put, List.getElem_toArray, List.getElem_cons_zero, List.getElem_cons_succ, List.setIfInBounds_toArray, List.set_cons_zero, List.set_cons_succ])
          refine wpAnyH_take (i := 34) (v := (.bool true)) rfl (by as_aux_lemma => kernel_rfl) (by as_aux_lemma => kernel_rfl) (by as_aux_lemma => kernel_rfl) (fun _ _ _ h => h) (Or.inl ⟨by kernel_rfl, ?_⟩) hS ?_
          · intro w hSw; (try dsimp only at hSw); go_simp; all_goals (try omega)
          (try simp only [Act.put, List.getElem_toArray, List.getElem_cons_zero, List.getElem_cons_succ, List.setIfInBounds_toArray, List.set_cons_zero, List.set_cons_succ])
          refine wpAnyH_take (i := 35) (v := (.bool true)) rfl (by as_aux_lemma => kernel_rfl) (by as_aux_lemma => kernel_rfl) (by as_aux_lemma => kernel_rfl) (fun _ _ _ h => h) (Or.inl ⟨by kernel_rfl, ?_⟩) hS ?_
          · intro w hSw; (try dsimp only at hSw); go_simp; all_goals (try omega)
          (try simp only [Act.put, List.getElem_toArray, List.getElem_cons_zero, List.getElem_cons_succ, List.setIfInBounds_toArray, List.set_cons_zero, List.set_cons_succ])
          refine wpAnyH_take (i := 36) (v := (.pointer (some ⟨w2.heap.size, 1, none⟩))) rfl (by as_aux_lemma => kernel_rfl) (by as_aux_lemma => kernel_rfl) (by as_aux_lemma => kernel_rfl) (fun _ _ _ h => h) (Or.inl ⟨by kernel_rfl, ?_⟩) hS ?_
          · intro w hSw; (try dsimp only at hSw); go_simp; all_goals (try omega)
          (try simp only [Act.put, List.getElem_toArray, List.getElem_cons_zero, List.getElem_cons_succ, List.setIfInBounds_toArray, List.set_cons_zero, List.set_cons_succ])
          refine wpAnyH_take (i := 37) (v := (.agg #[.int .i64 A1, .int .i64 A2])) rfl (by as_aux_lemma => kernel_rfl) (by as_aux_lemma => kernel_rfl) (by as_aux_lemma => kernel_rfl) (fun _ _ _ h => h) (Or.inl ⟨by kernel_rfl, ?_⟩) hS ?_
          · intro w hSw; (try dsimp only at hSw); obtain ⟨hSb, hl0, hl1, hl2, hl3, hl4, hl5, hl6, hl7, hl8, hl9, hl10, hl11, hl12, hl13, hl14, hl15, hl16⟩ := hSw; go_simp; all_goals (try omega)
          (try simp only [Act.put, List.getElem_toArray, List.getElem_cons_zero, List.getElem_cons_succ, List.setIfInBounds_toArray, List.set_cons_zero, List.set_cons_succ])
          refine wpAnyH_take (i := 38) (v := (.agg #[.slice ay ys.length ky])) rfl (by as_aux_lemma => kernel_rfl) (by as_aux_lemma => kernel_rfl) (by as_aux_lemma => kernel_rfl) (fun _ _ _ h => h) (Or.inl ⟨by kernel_rfl, ?_⟩) hS ?_
          · intro w hSw; (try dsimp only at hSw); obtain ⟨hSb, hl0, hl1, hl2, hl3, hl4, hl5, hl6, hl7, hl8, hl9, hl10, hl11, hl12, hl13, hl14, hl15, hl16⟩ := hSw; go_simp; all_goals (try omega)
          (try simp only [Act.put, List.getElem_toArray, List.getElem_cons_zero, List.getElem_cons_succ, List.setIfInBounds_toArray, List.set_cons_zero, List.set_cons_succ])
          refine wpAnyH_take (i := 39) (v := (.agg #[.int .i64 W, .bool Q, .int .i64 S])) rfl (by as_aux_lemma => kernel_rfl) (by as_aux_lemma => kernel_rfl) (by as_aux_lemma => kernel_rfl) (fun _ _ _ h => h) (Or.inl ⟨by kernel_rfl, ?_⟩) hS ?_
          · intro w hSw; (try dsimp only at hSw); obtain ⟨hSb, hl0, hl1, hl2, hl3, hl4, hl5, hl6, hl7, hl8, hl9, hl10, hl11, hl12, hl13, hl14, hl15, hl16⟩ := hSw; go_simp; all_goals (try omega)
          (try simp only [Act.put, List.getElem_toArray, List.getElem_cons_zero, List.getElem_cons_succ, List.setIfInBounds_toArray, List.set_cons_zero, List.set_cons_succ])
          refine wpAnyH_take (i := 40) (v := (.agg #[.int .i64 L, .int .i64 R])) rfl (by as_aux_lemma => kernel_rfl) (by as_aux_lemma => kernel_rfl) (by as_aux_lemma => kernel_rfl) (fun _ _ _ h => h) (Or.inl ⟨by kernel_rfl, ?_⟩) hS ?_
          · intro w hSw; (try dsimp only at hSw); obtain ⟨hSb, hl0, hl1, hl2, hl3, hl4, hl5, hl6, hl7, hl8, hl9, hl10, hl11, hl12, hl13, hl14, hl15, hl16⟩ := hSw; go_simp; all_goals (try omega)
          (try simp only [Act.put, List.getElem_toArray, List.getElem_cons_zero, List.getElem_cons_succ, List.setIfInBounds_toArray, List.set_cons_zero, List.set_cons_succ])
          refine wpAnyH_take (i := 41) (v := (.int .i64 M)) rfl (by as_aux_lemma => kernel_rfl) (by as_aux_lemma => kernel_rfl) (by as_aux_lemma => kernel_rfl) (fun _ _ _ h => h) (Or.inl ⟨by kernel_rfl, ?_⟩) hS ?_
          · intro w hSw; (try dsimp only at hSw); go_simp; all_goals (try omega)
          (try simp only [Act.put, List.getElem_toArray, List.getElem_cons_zero, List.getElem_cons_succ, List.setIfInBounds_toArray, List.set_cons_zero, List.set_cons_succ])
          refine wpAnyH_ready (rs := [42]) (by as_aux_lemma => kernel_rfl) (by simp) ?_
          refine AllReadyH.cons rfl (fun K hK => ?_) AllReadyH.nil
          go_simp
          refine Calls.mono (HSM.out _ ry.read) ?_
          rintro e w33 ⟨rfl, hc⟩
          have s33 : w32.heap.size ≤ w33.heap.size := hc.size
          have bq := hc
          replace cF0 := cell_later bq cF0
          replace zF := Nat.lt_of_lt_of_le zF bq.size
          replace cL0 := cell_later bq cL0
          replace cL1 := cell_later bq cL1
          replace cL2 := cell_later bq cL2
          replace zL := Nat.lt_of_lt_of_le zL bq.size
          replace cP0 := cell_later bq cP0
          replace cP1 := cell_later bq cP1
          replace zP := Nat.lt_of_lt_of_le zP bq.size
          replace cA0 := cell_later bq cA0
          replace cA1 := cell_later bq cA1
          replace cA2 := cell_later bq cA2
          replace zA := Nat.lt_of_lt_of_le zA bq.size
          replace cE0 := cell_later bq cE0
          replace cE1 := cell_later bq cE1
          replace cE2 := cell_later bq cE2
          replace zE := Nat.lt_of_lt_of_le zE bq.size
          replace cZ0 := cell_later bq cZ0
          replace cZ1 := cell_later bq cZ1
          replace cZ2 := cell_later bq cZ2
          replace zZ := Nat.lt_of_lt_of_le zZ bq.size
          replace cG0 := cell_later bq cG0
          replace cG1 := cell_later bq cG1
          replace cG2 := cell_later bq cG2
          replace zG := Nat.lt_of_lt_of_le zG bq.size
          replace cO0 := cell_later bq cO0
          replace cO1 := cell_later bq cO1
          replace cO2 := cell_later bq cO2
          replace zO := Nat.lt_of_lt_of_le zO bq.size
          replace cT0 := cell_later bq cT0
          replace cT1 := cell_later bq cT1
          replace zT := Nat.lt_of_lt_of_le zT bq.size
          replace ry := ry.below bq
          replace hb := hb.trans (bq.mono hb.size)
          clear hc bq
          refine hK.out _ _ (⟨hb, cA1, cA2, cE1, cE2, cF0, cG0, cG1, cG2, cL0, cL1, cL2, cP0, cP1, cT0, cT1, cZ1, cZ2⟩) (fun hS => ?_)
          clear hK K
          (try simp only [Act.put, List.getElem_toArray, List.getElem_cons_zero, List.getElem_cons_succ, List.setIfInBounds_toArray, List.set_cons_zero, List.set_cons_succ])
          refine wpAnyH_take (i := 43) (v := (.agg #[.int .i64 A1, .int .i64 A2])) rfl (by as_aux_lemma => kernel_rfl) (by as_aux_lemma => kernel_rfl) (by as_aux_lemma => kernel_rfl) (fun _ _ _ h => h) (Or.inl ⟨by kernel_rfl, ?_⟩) hS ?_
          · intro w hSw; (try dsimp only at hSw); go_simp; all_goals (try omega)
          (try simp only [Act.put, List.getElem_toArray, List.getElem_cons_zero, List.getElem_cons_succ, List.setIfInBounds_toArray, List.set_cons_zero, List.set_cons_succ])
          refine wpAnyH_take (i := 44) (v := (.bool true)) rfl (by as_aux_lemma => kernel_rfl) (by as_aux_lemma => kernel_rfl) (by as_aux_lemma => kernel_rfl) (fun _ _ _ h => h) (Or.inl ⟨by kernel_rfl, ?_⟩) hS ?_
          · intro w hSw; (try dsimp only at hSw); go_simp; all_goals (try omega)
          (try simp only [Act.put, List.getElem_toArray, List.getElem_cons_zero, List.getElem_cons_succ, List.setIfInBounds_toArray, List.set_cons_zero, List.set_cons_succ])
          refine wpAnyH_take (i := 45) (v := (.bool true)) rfl (by as_aux_lemma => kernel_rfl) (by as_aux_lemma => kernel_rfl) (by as_aux_lemma => kernel_rfl) (fun _ _ _ h => h) (Or.inl ⟨by kernel_rfl, ?_⟩) hS ?_
          · intro w hSw; (try dsimp only at hSw); go_simp; all_goals (try omega)
          (try simp only [Act.put, List.getElem_toArray, List.getElem_cons_zero, List.getElem_cons_succ, List.setIfInBounds_toArray, List.set_cons_zero, List.set_cons_succ])
          refine wpAnyH_take (i := 46) (v := (.bool true)) rfl (by as_aux_lemma => kernel_rfl) (by as_aux_lemma => kernel_rfl) (by as_aux_lemma => kernel_rfl) (fun _ _ _ h => h) (Or.inl ⟨by kernel_rfl, ?_⟩) hS ?_
          · intro w hSw; (try dsimp only at hSw); go_simp; all_goals (try omega)
          (try simp only [Act.put, List.getElem_toArray, List.getElem_cons_zero, List.getElem_cons_succ, List.setIfInBounds_toArray, List.set_cons_zero, List.set_cons_succ])
          refine wpAnyH_take (i := 47) (v := (.pointer (some ⟨w28.heap.size, 0, none⟩))) rfl (by as_aux_lemma => kernel_rfl) (by as_aux_lemma => kernel_rfl) (by as_aux_lemma => kernel_rfl) (fun _ _ _ h => h) (Or.inl ⟨by kernel_rfl, ?_⟩) hS ?_
          · intro w hSw; (try dsimp only at hSw); go_simp; all_goals (try omega)
          (try simp only [Act.put, List.getElem_toArray, List.getElem_cons_zero, List.getElem_cons_succ, List.setIfInBounds_toArray, List.set_cons_zero, List.set_cons_succ])
          refine wpAnyH_take (i := 48) (v := (.int .i64 c)) rfl (by as_aux_lemma => kernel_rfl) (by as_aux_lemma => kernel_rfl) (by as_aux_lemma => kernel_rfl) (fun _ _ _ h => h) (Or.inl ⟨by kernel_rfl, ?_⟩) hS ?_
          · intro w hSw; (try dsimp only at hSw); obtain ⟨hSb, hl0, hl1, hl2, hl3, hl4, hl5, hl6, hl7, hl8, hl9, hl10, hl11, hl12, hl13, hl14, hl15, hl16⟩ := hSw; go_simp; all_goals (try omega)
          (try simp only [Act.put, List.getElem_toArray, List.getElem_cons_zero, List.getElem_cons_succ, List.setIfInBounds_toArray, List.set_cons_zero, List.set_cons_succ])
          refine wpAnyH_take (i := 49) (v := (.agg #[.int .i64 L, .int .i64 R])) rfl (by as_aux_lemma => kernel_rfl) (by as_aux_lemma => kernel_rfl) (by as_aux_lemma => kernel_rfl) (fun _ _ _ h => h) (Or.inl ⟨by kernel_rfl, ?_⟩) hS ?_
          · intro w hSw; (try dsimp only at hSw); obtain ⟨hSb, hl0, hl1, hl2, hl3, hl4, hl5, hl6, hl7, hl8, hl9, hl10, hl11, hl12, hl13, hl14, hl15, hl16⟩ := hSw; go_simp; all_goals (try omega)
          (try simp only [Act.put, List.getElem_toArray, List.getElem_cons_zero, List.getElem_cons_succ, List.setIfInBounds_toArray, List.set_cons_zero, List.set_cons_succ])
          refine wpAnyH_ready (rs := [50]) (by as_aux_lemma => kernel_rfl) (by simp) ?_
          refine AllReadyH.cons rfl (fun K hK => ?_) AllReadyH.nil
          go_simp
          refine Calls.mono (HSS.out _) ?_
          rintro e w34 ⟨rfl, hc⟩
          have s34 : w33.heap.size ≤ w34.heap.size := hc.size
          have bq := hc
          replace cF0 := cell_later bq cF0
          replace zF := Nat.lt_of_lt_of_le zF bq.size
          replace cL0 := cell_later bq cL0
          replace cL1 := cell_later bq cL1
          replace cL2 := cell_later bq cL2
          replace zL := Nat.lt_of_lt_of_le zL bq.size
          replace cP0 := cell_later bq cP0
          replace cP1 := cell_later bq cP1
          replace zP := Nat.lt_of_lt_of_le zP bq.size
          replace cA0 := cell_later bq cA0
          replace cA1 := cell_later bq cA1
          replace cA2 := cell_later bq cA2
          replace zA := Nat.lt_of_lt_of_le zA bq.size
          replace cE0 := cell_later bq cE0
          replace cE1 := cell_later bq cE1
          replace cE2 := cell_later bq cE2
          replace zE := Nat.lt_of_lt_of_le zE bq.size
          replace cZ0 := cell_later bq cZ0
          replace cZ1 := cell_later bq cZ1
          replace cZ2 := cell_later bq cZ2
          replace zZ := Nat.lt_of_lt_of_le zZ bq.size
          replace cG0 := cell_later bq cG0
          replace cG1 := cell_later bq cG1
          replace cG2 := cell_later bq cG2
          replace zG := Nat.lt_of_lt_of_le zG bq.size
          replace cO0 := cell_later bq cO0
          replace cO1 := cell_later bq cO1
          replace cO2 := cell_later bq cO2
          replace zO := Nat.lt_of_lt_of_le zO bq.size
          replace cT0 := cell_later bq cT0
          replace cT1 := cell_later bq cT1
          replace zT := Nat.lt_of_lt_of_le zT bq.size
          replace ry := ry.below bq
          replace hb := hb.trans (bq.mono hb.size)
          clear hc bq
          refine hK.out _ _ (⟨hb, cA1, cA2, cE1, cE2, cF0, cG0, cG1, cG2, cL0, cL1, cL2, cP0, cP1, cT0, cT1, cZ1, cZ2⟩) (fun hS => ?_)
          clear hK K
          (try simp only [Act.put, List.getElem_toArray, List.getElem_cons_zero, List.getElem_cons_succ, List.setIfInBounds_toArray, List.set_cons_zero, List.set_cons_succ])
          refine wpAnyH_take (i := 51) (v := (.int .i64 c)) rfl (by as_aux_lemma => kernel_rfl) (by as_aux_lemma => kernel_rfl) (by as_aux_lemma => kernel_rfl) (fun _ _ _ h => h) (Or.inl ⟨by kernel_rfl, ?_⟩) hS ?_
          · intro w hSw; (try dsimp only at hSw); go_simp; all_goals (try omega)
          (try simp only [Act.put, List.getElem_toArray, List.getElem_cons_zero, List.getElem_cons_succ, List.setIfInBounds_toArray, List.set_cons_zero, List.set_cons_succ])
          refine wpAnyH_take (i := 52) (v := (.bool true)) rfl (by as_aux_lemma => kernel_rfl) (by as_aux_lemma => kernel_rfl) (by as_aux_lemma => kernel_rfl) (fun _ _ _ h => h) (Or.inl ⟨by kernel_rfl, ?_⟩) hS ?_
          · intro w hSw; (try dsimp only at hSw); go_simp; all_goals (try omega)
          (try simp only [Act.put, List.getElem_toArray, List.getElem_cons_zero, List.getElem_cons_succ, List.setIfInBounds_toArray, List.set_cons_zero, List.set_cons_succ])
          refine wpAnyH_take (i := 53) (v := (.bool true)) rfl (by as_aux_lemma => kernel_rfl) (by as_aux_lemma => kernel_rfl) (by as_aux_lemma => kernel_rfl) (fun _ _ _ h => h) (Or.inl ⟨by kernel_rfl, ?_⟩) hS ?_
          · intro w hSw; (try dsimp only at hSw); go_simp; all_goals (try omega)
          (try simp only [Act.put, List.getElem_toArray, List.getElem_cons_zero, List.getElem_cons_succ, List.setIfInBounds_toArray, List.set_cons_zero, List.set_cons_succ])
          refine wpAnyH_take (i := 54) (v := (.bool true)) rfl (by as_aux_lemma => kernel_rfl) (by as_aux_lemma => kernel_rfl) (by as_aux_lemma => kernel_rfl) (fun _ _ _ h => h) (Or.inl ⟨by kernel_rfl, ?_⟩) hS ?_
          · intro w hSw; (try dsimp only at hSw); go_simp; all_goals (try omega)
          (try simp only [Act.put, List.getElem_toArray, List.getElem_cons_zero, List.getElem_cons_succ, List.setIfInBounds_toArray, List.set_cons_zero, List.set_cons_succ])
          refine wpAnyH_take (i := 55) (v := (.pointer (some ⟨w28.heap.size, 1, none⟩))) rfl (by as_aux_lemma => kernel_rfl) (by as_aux_lemma => kernel_rfl) (by as_aux_lemma => kernel_rfl) (fun _ _ _ h => h) (Or.inl ⟨by kernel_rfl, ?_⟩) hS ?_
          · intro w hSw; (try dsimp only at hSw); go_simp; all_goals (try omega)
          (try simp only [Act.put, List.getElem_toArray, List.getElem_cons_zero, List.getElem_cons_succ, List.setIfInBounds_toArray, List.set_cons_zero, List.set_cons_succ])
          refine wpAnyH_take (i := 56) (v := (.string T)) rfl (by as_aux_lemma => kernel_rfl) (by as_aux_lemma => kernel_rfl) (by as_aux_lemma => kernel_rfl) (fun _ _ _ h => h) (Or.inl ⟨by kernel_rfl, ?_⟩) hS ?_
          · intro w hSw; (try dsimp only at hSw); obtain ⟨hSb, hl0, hl1, hl2, hl3, hl4, hl5, hl6, hl7, hl8, hl9, hl10, hl11, hl12, hl13, hl14, hl15, hl16⟩ := hSw; go_simp; all_goals (try omega)
          (try simp only [Act.put, List.getElem_toArray, List.getElem_cons_zero, List.getElem_cons_succ, List.setIfInBounds_toArray, List.set_cons_zero, List.set_cons_succ])
          refine wpAnyH_take (i := 57) (v := (.agg #[.int .i64 L, .int .i64 R])) rfl (by as_aux_lemma => kernel_rfl) (by as_aux_lemma => kernel_rfl) (by as_aux_lemma => kernel_rfl) (fun _ _ _ h => h) (Or.inl ⟨by kernel_rfl, ?_⟩) hS ?_
          · intro w hSw; (try dsimp only at hSw); obtain ⟨hSb, hl0, hl1, hl2, hl3, hl4, hl5, hl6, hl7, hl8, hl9, hl10, hl11, hl12, hl13, hl14, hl15, hl16⟩ := hSw; go_simp; all_goals (try omega)
          (try simp only [Act.put, List.getElem_toArray, List.getElem_cons_zero, List.getElem_cons_succ, List.setIfInBounds_toArray, List.set_cons_zero, List.set_cons_succ])
          refine wpAnyH_ready (rs := [58]) (by as_aux_lemma => kernel_rfl) (by simp) ?_
          refine AllReadyH.cons rfl (fun K hK => ?_) AllReadyH.nil
          go_simp
          refine Calls.mono (HSS.out _) ?_
          rintro e w35 ⟨rfl, hc⟩
          have s35 : w34.heap.size ≤ w35.heap.size := hc.size
          have bq := hc
          replace cF0 := cell_later bq cF0
          replace zF := Nat.lt_of_lt_of_le zF bq.size
          replace cL0 := cell_later bq cL0
          replace cL1 := cell_later bq cL1
          replace cL2 := cell_later bq cL2
          replace zL := Nat.lt_of_lt_of_le zL bq.size
          replace cP0 := cell_later bq cP0
          replace cP1 := cell_later bq cP1
          replace zP := Nat.lt_of_lt_of_le zP bq.size
          replace cA0 := cell_later bq cA0
          replace cA1 := cell_later bq cA1
          replace cA2 := cell_later bq cA2
          replace zA := Nat.lt_of_lt_of_le zA bq.size
          replace cE0 := cell_later bq cE0
          replace cE1 := cell_later bq cE1
          replace cE2 := cell_later bq cE2
          replace zE := Nat.lt_of_lt_of_le zE bq.size
          replace cZ0 := cell_later bq cZ0
          replace cZ1 := cell_later bq cZ1
          replace cZ2 := cell_later bq cZ2
          replace zZ := Nat.lt_of_lt_of_le zZ bq.size
          replace cG0 := cell_later bq cG0
          replace cG1 := cell_later bq cG1
          replace cG2 := cell_later bq cG2
          replace zG := Nat.lt_of_lt_of_le zG bq.size
          replace cO0 := cell_later bq cO0
          replace cO1 := cell_later bq cO1
          replace cO2 := cell_later bq cO2
          replace zO := Nat.lt_of_lt_of_le zO bq.size
          replace cT0 := cell_later bq cT0
          replace cT1 := cell_later bq cT1
          replace zT := Nat.lt_of_lt_of_le zT bq.size
          replace ry := ry.below bq
          replace hb := hb.trans (bq.mono hb.size)
          clear hc bq
          refine hK.out _ _ (⟨hb, cA1, cA2, cE1, cE2, cF0, cG0, cG1, cG2, cL0, cL1, cL2, cP0, cP1, cT0, cT1, cZ1, cZ2⟩) (fun hS => ?_)
          clear hK K
          (try simp only [Act.put, List.getElem_toArray, List.getElem_cons_zero, List.getElem_cons_succ, List.setIfInBounds_toArray, List.set_cons_zero, List.set_cons_succ])
          refine wpAnyH_take (i := 59) (v := (.string T)) rfl (by as_aux_lemma => kernel_rfl) (by as_aux_lemma => kernel_rfl) (by as_aux_lemma => kernel_rfl) (fun _ _ _ h => h) (Or.inl ⟨by kernel_rfl, ?_⟩) hS ?_
          · intro w hSw; (try dsimp only at hSw); go_simp; all_goals (try omega)
          (try simp only [Act.put, List.getElem_toArray, List.getElem_cons_zero, List.getElem_cons_succ, List.setIfInBounds_toArray, List.set_cons_zero, List.set_cons_succ])
          refine wpAnyH_take (i := 60) (v := (.bool true)) rfl (by as_aux_lemma => kernel_rfl) (by as_aux_lemma => kernel_rfl) (by as_aux_lemma => kernel_rfl) (fun _ _ _ h => h) (Or.inl ⟨by kernel_rfl, ?_⟩) hS ?_
          · intro w hSw; (try dsimp only at hSw); go_simp; all_goals (try omega)
          (try simp only [Act.put, List.getElem_toArray, List.getElem_cons_zero, List.getElem_cons_succ, List.setIfInBounds_toArray, List.set_cons_zero, List.set_cons_succ])
          refine wpAnyH_take (i := 61) (v := (.bool true)) rfl (by as_aux_lemma => kernel_rfl) (by as_aux_lemma => kernel_rfl) (by as_aux_lemma => kernel_rfl) (fun _ _ _ h => h) (Or.inl ⟨by kernel_rfl, ?_⟩) hS ?_
          · intro w hSw; (try dsimp only at hSw); go_simp; all_goals (try omega)
          (try simp only [Act.put, List.getElem_toArray, List.getElem_cons_zero, List.getElem_cons_succ, List.setIfInBounds_toArray, List.set_cons_zero, List.set_cons_succ])
          refine wpAnyH_take (i := 62) (v := (.bool true)) rfl (by as_aux_lemma => kernel_rfl) (by as_aux_lemma => kernel_rfl) (by as_aux_lemma => kernel_rfl) (fun _ _ _ h => h) (Or.inl ⟨by kernel_rfl, ?_⟩) hS ?_
          · intro w hSw; (try dsimp only at hSw); go_simp; all_goals (try omega)
          (try simp only [Act.put, List.getElem_toArray, List.getElem_cons_zero, List.getElem_cons_succ, List.setIfInBounds_toArray, List.set_cons_zero, List.set_cons_succ])
          refine wpAnyH_take (i := 63) (v := (.pointer (some ⟨w28.heap.size, 0, none⟩))) rfl (by as_aux_lemma => kernel_rfl) (by as_aux_lemma => kernel_rfl) (by as_aux_lemma => kernel_rfl) (fun _ _ _ h => h) (Or.inl ⟨by kernel_rfl, ?_⟩) hS ?_
          · intro w hSw; (try dsimp only at hSw); go_simp; all_goals (try omega)
          (try simp only [Act.put, List.getElem_toArray, List.getElem_cons_zero, List.getElem_cons_succ, List.setIfInBounds_toArray, List.set_cons_zero, List.set_cons_succ])
          refine wpAnyH_take (i := 64) (v := (.int .i64 c)) rfl (by as_aux_lemma => kernel_rfl) (by as_aux_lemma => kernel_rfl) (by as_aux_lemma => kernel_rfl) (fun _ _ _ h => h) (Or.inl ⟨by kernel_rfl, ?_⟩) hS ?_
          · intro w hSw; (try dsimp only at hSw); obtain ⟨hSb, hl0, hl1, hl2, hl3, hl4, hl5, hl6, hl7, hl8, hl9, hl10, hl11, hl12, hl13, hl14, hl15, hl16⟩ := hSw; go_simp; all_goals (try omega)
          (try simp only [Act.put, List.getElem_toArray, List.getElem_cons_zero, List.getElem_cons_succ, List.setIfInBounds_toArray, List.set_cons_zero, List.set_cons_succ])
          refine wpAnyH_take (i := 65) (v := (.bool cb)) rfl (by as_aux_lemma => kernel_rfl) (by as_aux_lemma => kernel_rfl) (by as_aux_lemma => kernel_rfl) (fun _ _ _ h => h) (Or.inl ⟨by kernel_rfl, ?_⟩) hS ?_
          · intro w hSw; (try dsimp only at hSw); go_simp; all_goals (try omega)
          (try simp only [Act.put, List.getElem_toArray, List.getElem_cons_zero, List.getElem_cons_succ, List.setIfInBounds_toArray, List.set_cons_zero, List.set_cons_succ])
          refine wpAnyH_take (i := 66) (v := (.bool cb)) rfl (by as_aux_lemma => kernel_rfl) (by as_aux_lemma => kernel_rfl) (by as_aux_lemma => kernel_rfl) (fun _ _ _ h => h) (Or.inl ⟨by kernel_rfl, ?_⟩) hS ?_
          · intro w hSw; (try dsimp only at hSw); go_simp; all_goals (try omega)
          (try simp only [Act.put, List.getElem_toArray, List.getElem_cons_zero, List.getElem_cons_succ, List.setIfInBounds_toArray, List.set_cons_zero, List.set_cons_succ])
          cases cb
          case false =>
            have hTe := HTE.out rfl
            clear HTE hcb
            refine wpAnyH_take (i := 67) (v := (.pointer (some ⟨w28.heap.size, 1, none⟩))) rfl (by as_aux_lemma => kernel_rfl) (by as_aux_lemma => kernel_rfl) (by as_aux_lemma => kernel_rfl) (fun _ _ _ h => h) (Or.inl ⟨by kernel_rfl, ?_⟩) hS ?_
            · intro w hSw; (try dsimp only at hSw); go_simp; all_goals (try omega)
            (try simp only [Act.put, List.getElem_toArray, List.getElem_cons_zero, List.getElem_cons_succ, List.setIfInBounds_toArray, List.set_cons_zero, List.set_cons_succ])
            refine wpAnyH_take (i := 68) (v := (.string T)) rfl (by as_aux_lemma => kernel_rfl) (by as_aux_lemma => kernel_rfl) (by as_aux_lemma => kernel_rfl) (fun _ _ _ h => h) (Or.inl ⟨by kernel_rfl, ?_⟩) hS ?_
            · intro w hSw; (try dsimp only at hSw); obtain ⟨hSb, hl0, hl1, hl2, hl3, hl4, hl5, hl6, hl7, hl8, hl9, hl10, hl11, hl12, hl13, hl14, hl15, hl16⟩ := hSw; go_simp; all_goals (try omega)
            (try simp only [Act.put, List.getElem_toArray, List.getElem_cons_zero, List.getElem_cons_succ, List.setIfInBounds_toArray, List.set_cons_zero, List.set_cons_succ])
            refine wpAnyH_take (i := 69) (v := (.bool true)) rfl (by as_aux_lemma => kernel_rfl) (by as_aux_lemma => kernel_rfl) (by as_aux_lemma => kernel_rfl) (fun _ _ _ h => h) (Or.inl ⟨by kernel_rfl, ?_⟩) hS ?_
            · intro w hSw; (try dsimp only at hSw); go_simp; all_goals (try omega)
            (try simp only [Act.put, List.getElem_toArray, List.getElem_cons_zero, List.getElem_cons_succ, List.setIfInBounds_toArray, List.set_cons_zero, List.set_cons_succ])
            refine wpAnyH_take (i := 70) (v := (.bool true)) rfl (by as_aux_lemma => kernel_rfl) (by as_aux_lemma => kernel_rfl) (by as_aux_lemma => kernel_rfl) (fun _ _ _ h => h) (Or.inl ⟨by kernel_rfl, ?_⟩) hS ?_
            · intro w hSw; (try dsimp only at hSw); go_simp; all_goals (try omega)
            (try simp only [Act.put, List.getElem_toArray, List.getElem_cons_zero, List.getElem_cons_succ, List.setIfInBounds_toArray, List.set_cons_zero, List.set_cons_succ])
            refine wpAnyH_take (i := 71) (v := (.bool true)) rfl (by as_aux_lemma => kernel_rfl) (by as_aux_lemma => kernel_rfl) (by as_aux_lemma => kernel_rfl) (fun _ _ _ h => h) (Or.inl ⟨by kernel_rfl, ?_⟩) hS ?_
            · intro w hSw; (try dsimp only at hSw); go_simp; all_goals (try omega)
            (try simp only [Act.put, List.getElem_toArray, List.getElem_cons_zero, List.getElem_cons_succ, List.setIfInBounds_toArray, List.set_cons_zero, List.set_cons_succ])
            refine wpAnyH_take (i := 72) (v := (.bool true)) rfl (by as_aux_lemma => kernel_rfl) (by as_aux_lemma => kernel_rfl) (by as_aux_lemma => kernel_rfl) (fun _ _ _ h => h) (Or.inl ⟨by kernel_rfl, ?_⟩) hS ?_
            · intro w hSw; (try dsimp only at hSw); go_simp; all_goals (try omega)
            (try simp only [Act.put, List.getElem_toArray, List.getElem_cons_zero, List.getElem_cons_succ, List.setIfInBounds_toArray, List.set_cons_zero, List.set_cons_succ])
            refine wpAnyH_done (by kernel_rfl) ?_ _
            clear hS
            go_wp2
            go_ret
            refine ⟨?_, hb⟩
            rename_i _ d1 h1 _ d2 h2
            have e1 : d1 = 2 := Option.some.inj (show some d1 = some 2 from h1.symm)
            have e2 : d2 = 158 := Option.some.inj (show some d2 = some 158 from h2.symm)
            rw [e1, e2]
            first | rfl | kernel_rfl
          case true =>
            clear HTE hcb
            refine wpAnyH_take (i := 67) (v := undef) rfl (by as_aux_lemma => kernel_rfl) (by as_aux_lemma => kernel_rfl) (by as_aux_lemma => kernel_rfl) (fun _ _ _ h => h) (Or.inr ⟨by kernel_rfl, rfl⟩) hS ?_
            (try simp only [Act.put, List.getElem_toArray, List.getElem_cons_zero, List.getElem_cons_succ, List.setIfInBounds_toArray, List.set_cons_zero, List.set_cons_succ])
            refine wpAnyH_take (i := 68) (v := undef) rfl (by as_aux_lemma => kernel_rfl) (by as_aux_lemma => kernel_rfl) (by as_aux_lemma => kernel_rfl) (fun _ _ _ h => h) (Or.inr ⟨by kernel_rfl, rfl⟩) hS ?_
            (try simp only [Act.put, List.getElem_toArray, List.getElem_cons_zero, List.getElem_cons_succ, List.setIfInBounds_toArray, List.set_cons_zero, List.set_cons_succ])
            refine wpAnyH_take (i := 69) (v := undef) rfl (by as_aux_lemma => kernel_rfl) (by as_aux_lemma => kernel_rfl) (by as_aux_lemma => kernel_rfl) (fun _ _ _ h => h) (Or.inr ⟨by kernel_rfl, rfl⟩) hS ?_
            (try simp only [Act.put, List.getElem_toArray, List.getElem_cons_zero, List.getElem_cons_succ, List.setIfInBounds_toArray, List.set_cons_zero, List.set_cons_succ])
            refine wpAnyH_take (i := 70) (v := (.bool true)) rfl (by as_aux_lemma => kernel_rfl) (by as_aux_lemma => kernel_rfl) (by as_aux_lemma => kernel_rfl) (fun _ _ _ h => h) (Or.inl ⟨by kernel_rfl, ?_⟩) hS ?_
            · intro w hSw; (try dsimp only at hSw); go_simp; all_goals (try omega)
            (try simp only [Act.put, List.getElem_toArray, List.getElem_cons_zero, List.getElem_cons_succ, List.setIfInBounds_toArray, List.set_cons_zero, List.set_cons_succ])
            refine wpAnyH_take (i := 71) (v := (.bool true)) rfl (by as_aux_lemma => kernel_rfl) (by as_aux_lemma => kernel_rfl) (by as_aux_lemma => kernel_rfl) (fun _ _ _ h => h) (Or.inl ⟨by kernel_rfl, ?_⟩) hS ?_
            · intro w hSw; (try dsimp only at hSw); go_simp; all_goals (try omega)
            (try simp only [Act.put, List.getElem_toArray, List.getElem_cons_zero, List.getElem_cons_succ, List.setIfInBounds_toArray, List.set_cons_zero, List.set_cons_succ])
            refine wpAnyH_take (i := 72) (v := (.bool true)) rfl (by as_aux_lemma => kernel_rfl) (by as_aux_lemma => kernel_rfl) (by as_aux_lemma => kernel_rfl) (fun _ _ _ h => h) (Or.inl ⟨by kernel_rfl, ?_⟩) hS ?_
            · intro w hSw; (try dsimp only at hSw); go_simp; all_goals (try omega)
            (try simp only [Act.put, List.getElem_toArray, List.getElem_cons_zero, List.getElem_cons_succ, List.setIfInBounds_toArray, List.set_cons_zero, List.set_cons_succ])
            refine wpAnyH_done (by kernel_rfl) ?_ _
            clear hS
            go_wp2
            go_ret
            refine ⟨?_, hb⟩
            rename_i _ d1 h1 _ d2 h2
            have e1 : d1 = 2 := Option.some.inj (show some d1 = some 2 from h1.symm)
            have e2 : d2 = 158 := Option.some.inj (show some d2 = some 158 from h2.symm)
            rw [e1, e2]
            first | rfl | kernel_rfl
  · skip
    obtain ⟨F, hF⟩ : ∃ F, mvC ys W Q S L R M = F := ⟨_, rfl⟩
    rw [hF] at IM SM hC
    generalize (mvS ys W Q S L R M).1 = T1 at *
    generalize (mvS ys W Q S L R M).2 = T2 at *
    have HIM : Hid _ := IM
    have HSM : Hid _ := SM
    clear IM SM hF hk1 hk2 hyb HIT HSS
    go_wp2_with fail
    have bp : ∀ o0 o1 o2, Below w1.heap.size w1 (((w1.alloc o0).alloc o1).alloc o2) := fun o0 o1 o2 => (((Below.refl _ _).alloc (Nat.le_refl _) o0).alloc (by simp) o1).alloc (by simp; omega) o2
    have hbt : ∀ o0 o1 o2, Below w.heap.size w (((w1.alloc o0).alloc o1).alloc o2) := fun o0 o1 o2 => hb.trans ((bp o0 o1 o2).mono hb.size)
    refine Calls.mono (HIM.out _ (ry.below (bp _ _ _)).read) ?_
    rintro e w2 ⟨rfl, hc⟩
    have s2 : w1.heap.size + 3 ≤ w2.heap.size := by have := hc.size; simp at this; omega
    have bq : Below w1.heap.size w1 w2 := (bp _ _ _).trans (hc.mono (bp _ _ _).size)
    have cF0 : w2.cell? ⟨w1.heap.size, 0, none⟩ = some (.slice ay ys.length ky) := cell_later hc (by simp [go_sem])
    have zF : w1.heap.size < w2.heap.size := by omega
    have cL0 : w2.cell? ⟨w1.heap.size + 1, 0, none⟩ = some (.int .i64 W) := cell_later hc (by simp [go_sem])
    have cL1 : w2.cell? ⟨w1.heap.size + 1, 1, none⟩ = some (.bool Q) := cell_later hc (by simp [go_sem])
    have cL2 : w2.cell? ⟨w1.heap.size + 1, 2, none⟩ = some (.int .i64 S) := cell_later hc (by simp [go_sem])
    have zL : w1.heap.size + 1 < w2.heap.size := by omega
    have cP0 : w2.cell? ⟨w1.heap.size + 1 + 1, 0, none⟩ = some (.int .i64 L) := cell_later hc (by simp [go_sem])
    have cP1 : w2.cell? ⟨w1.heap.size + 1 + 1, 1, none⟩ = some (.int .i64 R) := cell_later hc (by simp [go_sem])
    have zP : w1.heap.size + 1 + 1 < w2.heap.size := by omega
    replace ry := ry.below bq
    replace hb := hb.trans (bq.mono hb.size)
    clear hc bq bp hbt
    go_wp2_with fail
    have bp : ∀ o0, Below w2.heap.size w2 (w2.alloc o0) := fun o0 => (Below.refl _ _).alloc (Nat.le_refl _) o0
    have hbt : ∀ o0, Below w.heap.size w (w2.alloc o0) := fun o0 => hb.trans ((bp o0).mono hb.size)
    obtain ⟨w3, hw3⟩ : ∃ x, (w2.alloc (.cells #[.int .i64 F, .int .i64 T1, .int .i64 T2] 33)) = x := ⟨_, rfl⟩
    have hc : Below ((w2.alloc (.cells #[.int .i64 F, .int .i64 T1, .int .i64 T2] 33))).heap.size ((w2.alloc (.cells #[.int .i64 F, .int .i64 T1, .int .i64 T2] 33))) w3 := hw3 ▸ Below.refl _ _
    have s3 : w2.heap.size + 1 ≤ w3.heap.size := by have := hc.size; simp at this; omega
    have bq : Below w2.heap.size w2 w3 := (bp _).trans (hc.mono (bp _).size)
    replace cF0 := cell_later bq cF0
    replace zF := Nat.lt_of_lt_of_le zF bq.size
    replace cL0 := cell_later bq cL0
    replace cL1 := cell_later bq cL1
    replace cL2 := cell_later bq cL2
    replace zL := Nat.lt_of_lt_of_le zL bq.size
    replace cP0 := cell_later bq cP0
    replace cP1 := cell_later bq cP1
    replace zP := Nat.lt_of_lt_of_le zP bq.size
    have cA0 : w3.cell? ⟨w2.heap.size, 0, none⟩ = some (.int .i64 F) := cell_later hc (by simp [go_sem])
    have cA1 : w3.cell? ⟨w2.heap.size, 1, none⟩ = some (.int .i64 T1) := cell_later hc (by simp [go_sem])
    have cA2 : w3.cell? ⟨w2.heap.size, 2, none⟩ = some (.int .i64 T2) := cell_later hc (by simp [go_sem])
    have zA : w2.heap.size < w3.heap.size := by omega
    replace ry := ry.below bq
    replace hb := hb.trans (bq.mono hb.size)
    clear hc bq bp hbt
    rw [hw3]
    clear hw3
    have bd : Below w3.heap.size w3 w3.drew := (Below.refl _ _).drew
    refine wp_region_held_drew (S := fun w' => Below w.heap.size w w' ∧ w'.cell? ⟨w2.heap.size, 0, none⟩ = some (.int .i64 F) ∧ w'.cell? ⟨w1.heap.size, 0, none⟩ = some (.slice ay ys.length ky) ∧ w'.cell? ⟨w1.heap.size + 1, 0, none⟩ = some (.int .i64 W) ∧ w'.cell? ⟨w1.heap.size + 1, 1, none⟩ = some (.bool Q) ∧ w'.cell? ⟨w1.heap.size + 1, 2, none⟩ = some (.int .i64 S) ∧ w'.cell? ⟨w1.heap.size + 1 + 1, 0, none⟩ = some (.int .i64 L) ∧ w'.cell? ⟨w1.heap.size + 1 + 1, 1, none⟩ = some (.int .i64 R)) (by kernel_rfl) ⟨(hb.trans (bd.mono hb.size)), cell_later bd cA0, cell_later bd cF0, cell_later bd cL0, cell_later bd cL1, cell_later bd cL2, cell_later bd cP0, cell_later bd cP1⟩ (fun hS => ?_)
    obtain ⟨D3, hD⟩ : ∃ D, w3.drew = D := ⟨_, rfl⟩
    rw [hD] at hS bd ⊢
    have hc := bd
    clear hD bd
    have s4 : w3.heap.size ≤ D3.heap.size := hc.size
    have bq := hc
    replace cF0 := cell_later bq cF0
    replace zF := Nat.lt_of_lt_of_le zF bq.size
    replace cL0 := cell_later bq cL0
    replace cL1 := cell_later bq cL1
    replace cL2 := cell_later bq cL2
    replace zL := Nat.lt_of_lt_of_le zL bq.size
    replace cP0 := cell_later bq cP0
    replace cP1 := cell_later bq cP1
    replace zP := Nat.lt_of_lt_of_le zP bq.size
    replace cA0 := cell_later bq cA0
    replace cA1 := cell_later bq cA1
    replace cA2 := cell_later bq cA2
    replace zA := Nat.lt_of_lt_of_le zA bq.size
    replace ry := ry.below bq
    replace hb := hb.trans (bq.mono hb.size)
    clear hc bq
    refine wpAnyH_take (i := 0) (v := (.agg #[.slice ay ys.length ky])) rfl (by as_aux_lemma => kernel_rfl) (by as_aux_lemma => kernel_rfl) (by as_aux_lemma => kernel_rfl) (fun _ _ _ h => h) (Or.inl ⟨by kernel_rfl, ?_⟩) hS ?_
    · intro w hSw; (try dsimp only at hSw); obtain ⟨hSb, hl0, hl1, hl2, hl3, hl4, hl5, hl6⟩ := hSw; go_simp; all_goals (try omega)
    (try simp only [Act.put, List.getElem_toArray, List.getElem_cons_zero, List.getElem_cons_succ, List.setIfInBounds_toArray, List.set_cons_zero, List.set_cons_succ])
    refine wpAnyH_take (i := 1) (v := (.agg #[.int .i64 W, .bool Q, .int .i64 S])) rfl (by as_aux_lemma => kernel_rfl) (by as_aux_lemma => kernel_rfl) (by as_aux_lemma => kernel_rfl) (fun _ _ _ h => h) (Or.inl ⟨by kernel_rfl, ?_⟩) hS ?_
    · intro w hSw; (try dsimp only at hSw); obtain ⟨hSb, hl0, hl1, hl2, hl3, hl4, hl5, hl6⟩ := hSw; go_simp; all_goals (try omega)
    (try simp only [Act.put, List.getElem_toArray, List.getElem_cons_zero, List.getElem_cons_succ, List.setIfInBounds_toArray, List.set_cons_zero, List.set_cons_succ])
    refine wpAnyH_take (i := 2) (v := (.agg #[.int .i64 L, .int .i64 R])) rfl (by as_aux_lemma => kernel_rfl) (by as_aux_lemma => kernel_rfl) (by as_aux_lemma => kernel_rfl) (fun _ _ _ h => h) (Or.inl ⟨by kernel_rfl, ?_⟩) hS ?_
    · intro w hSw; (try dsimp only at hSw); obtain ⟨hSb, hl0, hl1, hl2, hl3, hl4, hl5, hl6⟩ := hSw; go_simp; all_goals (try omega)
    (try simp only [Act.put, List.getElem_toArray, List.getElem_cons_zero, List.getElem_cons_succ, List.setIfInBounds_toArray, List.set_cons_zero, List.set_cons_succ])
    refine wpAnyH_take (i := 3) (v := (.int .i64 M)) rfl (by as_aux_lemma => kernel_rfl) (by as_aux_lemma => kernel_rfl) (by as_aux_lemma => kernel_rfl) (fun _ _ _ h => h) (Or.inl ⟨by kernel_rfl, ?_⟩) hS ?_
    · intro w hSw; (try dsimp only at hSw); go_simp; all_goals (try omega)
    (try simp only [Act.put, List.getElem_toArray, List.getElem_cons_zero, List.getElem_cons_succ, List.setIfInBounds_toArray, List.set_cons_zero, List.set_cons_succ])
    refine wpAnyH_take (i := 6) (v := (.pointer (some ⟨w2.heap.size, 0, none⟩))) rfl (by as_aux_lemma => kernel_rfl) (by as_aux_lemma => kernel_rfl) (by as_aux_lemma => kernel_rfl) (fun _ _ _ h => h) (Or.inl ⟨by kernel_rfl, ?_⟩) hS ?_
    · intro w hSw; (try dsimp only at hSw); go_simp; all_goals (try omega)
    (try simp only [Act.put, List.getElem_toArray, List.getElem_cons_zero, List.getElem_cons_succ, List.setIfInBounds_toArray, List.set_cons_zero, List.set_cons_succ])
    refine wpAnyH_take (i := 7) (v := (.int .i64 F)) rfl (by as_aux_lemma => kernel_rfl) (by as_aux_lemma => kernel_rfl) (by as_aux_lemma => kernel_rfl) (fun _ _ _ h => h) (Or.inl ⟨by kernel_rfl, ?_⟩) hS ?_
    · intro w hSw; (try dsimp only at hSw); obtain ⟨hSb, hl0, hl1, hl2, hl3, hl4, hl5, hl6⟩ := hSw; go_simp; all_goals (try omega)
    (try simp only [Act.put, List.getElem_toArray, List.getElem_cons_zero, List.getElem_cons_succ, List.setIfInBounds_toArray, List.set_cons_zero, List.set_cons_succ])
    refine wpAnyH_ready (rs := [4]) (by as_aux_lemma => kernel_rfl) (by simp) ?_
    refine AllReadyH.cons rfl (fun K hK => ?_) AllReadyH.nil
    go_simp
    refine Calls.mono (HSM.out _ ry.read) ?_
    rintro e w5 ⟨rfl, hc⟩
    have s5 : D3.heap.size ≤ w5.heap.size := hc.size
    have bq := hc
    replace cF0 := cell_later bq cF0
    replace zF := Nat.lt_of_lt_of_le zF bq.size
    replace cL0 := cell_later bq cL0
    replace cL1 := cell_later bq cL1
    replace cL2 := cell_later bq cL2
    replace zL := Nat.lt_of_lt_of_le zL bq.size
    replace cP0 := cell_later bq cP0
    replace cP1 := cell_later bq cP1
    replace zP := Nat.lt_of_lt_of_le zP bq.size
    replace cA0 := cell_later bq cA0
    replace cA1 := cell_later bq cA1
    replace cA2 := cell_later bq cA2
    replace zA := Nat.lt_of_lt_of_le zA bq.size
    replace ry := ry.below bq
    replace hb := hb.trans (bq.mono hb.size)
    clear hc bq
    refine hK.out _ _ (⟨hb, cA0, cF0, cL0, cL1, cL2, cP0, cP1⟩) (fun hS => ?_)
    clear hK K
    (try simp only [Act.put, List.getElem_toArray, List.getElem_cons_zero, List.getElem_cons_succ, List.setIfInBounds_toArray, List.set_cons_zero, List.set_cons_succ])
    refine wpAnyH_take (i := 5) (v := (.int .i64 F)) rfl (by as_aux_lemma => kernel_rfl) (by as_aux_lemma => kernel_rfl) (by as_aux_lemma => kernel_rfl) (fun _ _ _ h => h) (Or.inl ⟨by kernel_rfl, ?_⟩) hS ?_
    · intro w hSw; (try dsimp only at hSw); go_simp; all_goals (try omega)
    (try simp only [Act.put, List.getElem_toArray, List.getElem_cons_zero, List.getElem_cons_succ, List.setIfInBounds_toArray, List.set_cons_zero, List.set_cons_succ])
    refine wpAnyH_take (i := 8) (v := (.bool true)) rfl (by as_aux_lemma => kernel_rfl) (by as_aux_lemma => kernel_rfl) (by as_aux_lemma => kernel_rfl) (fun _ _ _ h => h) (Or.inl ⟨by kernel_rfl, ?_⟩) hS ?_
    · intro w hSw; (try dsimp only at hSw); go_simp; all_goals (try omega)
    (try simp only [Act.put, List.getElem_toArray, List.getElem_cons_zero, List.getElem_cons_succ, List.setIfInBounds_toArray, List.set_cons_zero, List.set_cons_succ])
    refine wpAnyH_take (i := 9) (v := (.bool true)) rfl (by as_aux_lemma => kernel_rfl) (by as_aux_lemma => kernel_rfl) (by as_aux_lemma => kernel_rfl) (fun _ _ _ h => h) (Or.inl ⟨by kernel_rfl, ?_⟩) hS ?_
    · intro w hSw; (try dsimp only at hSw); go_simp; all_goals (try omega)
    (try simp only [Act.put, List.getElem_toArray, List.getElem_cons_zero, List.getElem_cons_succ, List.setIfInBounds_toArray, List.set_cons_zero, List.set_cons_succ])
    refine wpAnyH_done (by kernel_rfl) ?_ _
    clear hS
    go_wp2
    go_ret
    exact ⟨rfl, hb⟩
end Go.Proofs.YtjgmkcmlkffjlaaDoor

namespace Go.Proofs.YtjgmkcmlkffjlaaDoor.fnMoves
open Go.ChangeShapes Go.WideShapes Go.ChangeAt Go.WideMaps Go.WideElems Go.RowKit
set_option linter.unusedVariables false
set_option linter.unusedSimpArgs false

abbrev LAID : List (String × DataW Unit) := Rows.fnMovesRow.laid
theorem own : ownKnob Tryd.prog.godebug = none := by kernel_rfl
theorem laidOut : laidOutB Tryd.prog = true := by kernel_rfl
theorem door_met (os : Os) (args : Array Value) : laidMetH Tryd.prog LAID ((World.doorLaid Tryd.prog 400 os).forCall (fun _ _ => 0) ⟨#[], args, []⟩).memory :=
  laidMetH_of_parts3 (fuel := 8) (laidMet_of_run' 8 (by kernel_rfl) (by kernel_rfl)) (by kernel_rfl) (by kernel_rfl)
theorem gPow : Tryd.prog.globalNamed "internal/strconv.uint64pow10" = some 0 := by kernel_rfl
theorem tPow : (Tryd.prog.globals[0]?).map (·.type) = some 116 := by kernel_rfl
theorem of_laid {W : World} (h : laidMetH Tryd.prog LAID W) : TabOk W := by
  rw [MakeChecks.laidMetH_plain _ _ _ (by kernel_rfl)] at h
  obtain ⟨ps, ⟨g0, t0, cs0, f0, p0, q0, hg0, ht0, hv0, hd0, ⟨g1, t1, cs1, f1, p1, q1, hg1, ht1, hv1, hd1, ⟨g2, t2, cs2, f2, p2, q2, hg2, ht2, hv2, hd2, _, _⟩, _⟩, _⟩, _, _⟩ := h
  obtain rfl := Option.some.inj (gPow.symm.trans hg2)
  obtain rfl := Option.some.inj (tPow.symm.trans ht2)
  have hd : DataW.trod _ Tryd.prog W 0 _ false f2 116 cs2.toList = some (Lib.tabData .u64 Lib.pow10Tab, p2) := hd2
  unfold TabOk Lib.TabIs
  rw [hv2, ← Lib.cells_of_tab Tryd.underlying116 Tryd.underlying99 (by kernel_rfl) (by kernel_rfl) hd]

set_option maxRecDepth 100000 in
theorem lifted (os : Os) (started : os.Started) (H : Type) (enc : TypeId × Value → H) :
    ReturnsInHanded {} Tryd.checked os 3 .any (fun w args => (Rows.fnMovesSpec.pre enc Tryd.prog Tryd.f3 Rows.fnMovesRow.domain false w args ∧ laidMetH Tryd.prog LAID w) ∧ sizedMet enc Tryd.prog Tryd.f3 (OpenSpec.ofChange Rows.fnMovesSpec) false w args)
      (Rows.fnMovesSpec.post enc Tryd.prog Tryd.f3 false true false false) := by
  refine returnsInHanded_of_change_and (C := Tryd.checked) (X := fun w _ => laidMetH Tryd.prog LAID w) (fun _ _ _ hh h => h.of_heap hh) own started (by kernel_rfl) Tryd.func3
    (ChangeSpec.witness_shaped (enc := enc) (C := Tryd.checked) (os := os) (X := fun w _ => laidMetH Tryd.prog LAID w) false (World.doorLaid Tryd.prog 400 os) #[.slice none 0 0] 8 rfl (World.shaped_of_RefB (by kernel_rfl) (by kernel_rfl)) (by kernel_rfl) (by kernel_rfl) (by kernel_rfl) (door_met os _)) ?_
  intro W base args ds gs before hval0 hW _ _ hL _
  have hval : ∀ (j : Nat) t v, Tryd.f3.params[j]? = some t → args[j]? = some v → Value.okWide Tryd.prog W .any base t v := hval0
  have hW' := hW
  obtain ⟨p, q, hA0, hV, rfl, hfz, hnd⟩ := hW
  have hA : DataW.TrodAll enc Tryd.prog W 0 (fun _ => true) true Tryd.f3.params.toList args.toList ds p := hA0
  rw [Tryd.params3] at hA hval
  obtain ⟨v0, d0, rfl, rfl, h0⟩ := trodAll_one hA
  obtain ⟨rfl, rfl⟩ := trodVars_none hV
  obtain ⟨a0, len0, cap0, rfl⟩ := okWide_slice Tryd.underlying22 (hval 0 22 v0 rfl rfl)
  have k0 := h0
  have lt0 : ∀ x ∈ p, x.block < W.heap.size := by obtain ⟨m, hm⟩ := k0; exact DataW.trod_lt m _ _ _ hm
  obtain ⟨x0, hr0, hB0, hm0⟩ := open_bytes Tryd.underlying22 Tryd.underlying5 (by kernel_rfl) h0
  clear hA0 hval0
  refine (movesWalk a0 len0 cap0 x0 W hr0 hB0 hm0 (of_laid hL)).mono fun e W' ⟨he, bel⟩ => ?_
  subst he
  exact ⟨_, rfl, _, _, _, [], _, [], hW', trodAll_mk1 (shut_bool Tryd.underlying4 _), trodAll_mk1 (Below.trod laidOut (by kernel_rfl) (of_decide_eq_true (by kernel_rfl)) k0 bel lt0), rfl, bel.frame _, fun h => by cases h⟩

theorem row_holds : Rows.FnMovesSaid :=
  OpenClaim.holds_of_wide 3 Tryd.f3 rfl rfl rfl rfl rfl rfl rfl ⟨rfl, rfl, rfl, rfl, rfl⟩ rfl rfl rfl rfl rfl (by kernel_rfl) Tryd.func3 (by kernel_rfl)
    (of_decide_eq_true (by kernel_rfl)) (by unfold Func.isWrapper; first | (rw [if_pos (by decide +kernel)]; kernel_rfl) | (rw [if_neg (by decide +kernel)]; exact ⟨rfl, rfl⟩))
    (fun os started H enc _ => lifted os started H enc)

theorem card_holds : Rows.FnMovesCardSaid :=
  Claim7.holds_tied_plain_at .later [] [.data, .data, .data] true Rows.fnMovesCard.stood.harness false
    row_holds (fun _ h => by cases h) (by kernel_rfl) (fun _ h => by cases h) fnMoves_row_tie rfl ⟨rfl, rfl⟩ (by kernel_rfl) rfl
    (fun f fn hf hfn => by
      obtain rfl : f = 3 := Option.some.inj ((show Tryd.prog.funcNamed "loop.example/g00414/laws.FnMoves" = some 3 by kernel_rfl).symm.trans hf) |>.symm
      obtain rfl : fn = Tryd.f3 := (Option.some.inj (Tryd.func3.symm.trans hfn)).symm
      exact ⟨by kernel_rfl, fun j t ht => by
        rw [Tryd.params3] at ht
        have hm : t ∈ [22] := by simpa using Array.mem_of_getElem? ht
        have hall : ([22].all fun u => !Tryd.prog.wantsStandIn u) = true := by kernel_rfl
        exact (show Tryd.prog.wantsStandIn t = false by simpa using List.all_eq_true.1 hall t hm)⟩)
    (by kernel_rfl)
end Go.Proofs.YtjgmkcmlkffjlaaDoor.fnMoves
namespace Go.Proofs.YtjgmkcmlkffjlaaDoor
theorem fnMoves_proved : Rows.FnMovesCardSaid := fnMoves.card_holds
end Go.Proofs.YtjgmkcmlkffjlaaDoor
