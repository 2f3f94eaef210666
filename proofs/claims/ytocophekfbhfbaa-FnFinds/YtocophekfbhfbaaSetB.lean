/-
  Node3, Set4, Set5 in one text.
-/
import Derived.Deep.RegionWith
import Derived.Test.YtocophekfbhfbaaNode1
import Derived.Test.YtocophekfbhfbaaSetA
namespace Go.Proofs.Ytocophekfbhfbaa
open Go.RowKit
set_option linter.unusedVariables false

set_option maxHeartbeats 800000 in
set_option maxRecDepth 20000 in
theorem l5Byte_any (b o : Nat) (n : Nd) (c : Int) (w : World) (hs : n.s.size ≤ 1073741824)
    (c0 : w.cell? ⟨b, o, none⟩ = some (.int .i64 n.k)) (c1 : w.cell? ⟨b, o + 1, none⟩ = some (.int .i64 n.c)) (c2 : w.cell? ⟨b, o + 2, none⟩ = some (.string n.s)) (h0 : 0 ≤ c) (h1 : c < 256) :
    Calls Try.prog 189 #[.pointer (some ⟨b, o, none⟩), .int .u8 c] w fun e w' => e = .returned (.bool (hasB n c)) ∧ Below w.heap.size w w' := by
  obtain ⟨k, d, s, l, r⟩ := n
  simp only at c0 c1 c2 hs
  obtain ⟨R, hR⟩ : ∃ R, R = hasB ⟨k, d, s, l, r⟩ c := ⟨_, rfl⟩
  rw [← hR]
  have hin := fun w' => l5In_any s c w' hs
  obtain ⟨I, hI⟩ : ∃ I, I = inB s c := ⟨_, rfl⟩
  rw [← hI] at hin
  have HI : Hid _ := hI
  clear hI
  have HIN : Hid _ := hin
  clear hin
  have BR := Below.refl w.heap.size w
  unfold hasB at hR
  simp only at hR
  rw [← HI.out] at hR
  by_cases k2 : k = 2
  · subst k2
    rw [if_pos rfl] at hR
    subst hR
    go_enter Try.func189, Try.ntmps189
    go_wp2
    go_ret
    exact ⟨by congr 2, BR⟩
  have k2' : (k == 2) = false := by simpa using k2
  rw [if_neg k2] at hR
  by_cases k3 : k = 3
  · subst k3
    rw [if_pos rfl] at hR
    by_cases c10 : c = 10
    · subst c10
      simp at hR
      subst hR
      go_enter Try.func189, Try.ntmps189
      go_wp2
      go_ret
      exact ⟨rfl, BR⟩
    · have c10' : (c == 10) = false := by simpa using c10
      simp [c10] at hR
      subst hR
      go_enter Try.func189, Try.ntmps189
      go_wp2
      go_ret
      exact ⟨ret_bool (by simp [c10]), BR⟩
  have k3' : (k == 3) = false := by simpa using k3
  rw [if_neg k3] at hR
  by_cases k4 : k = 4
  · subst k4
    rw [if_pos rfl] at hR
    subst hR
    go_enter Try.func189, Try.ntmps189
    go_wp2_with fail
    refine (HIN.out _).mono ?_
    rintro e w' ⟨rfl, rfl⟩
    go_wp2
    go_ret
    exact ⟨rfl, BR⟩
  have k4' : (k == 4) = false := by simpa using k4
  rw [if_neg k4] at hR
  by_cases k5 : k = 5
  · subst k5
    rw [if_pos rfl] at hR
    by_cases c10 : c = 10
    · subst c10
      simp at hR
      subst hR
      go_enter Try.func189, Try.ntmps189
      go_wp2
      go_ret
      exact ⟨rfl, BR⟩
    · have c10' : (c == 10) = false := by simpa using c10
      simp [c10] at hR
      subst hR
      go_enter Try.func189, Try.ntmps189
      go_wp2_with fail
      refine (HIN.out _).mono ?_
      rintro e w' ⟨rfl, rfl⟩
      go_wp2
      go_ret
      exact ⟨ret_bool (by simp [c10]), BR⟩
  have k5' : (k == 5) = false := by simpa using k5
  rw [if_neg k5] at hR
  subst hR
  go_enter Try.func189, Try.ntmps189
  go_wp2
  go_ret
  exact ⟨rfl, BR⟩

set_option maxHeartbeats 800000 in
set_option maxRecDepth 20000 in
theorem implHasByte_any (n : Nd) (c : Int) (w : World) (h0 : 0 ≤ c) (h1 : c < 256) :
    Calls Try.prog 188 #[.agg #[.int .i64 n.k, .int .i64 n.c, .string n.s, .int .i64 n.l, .int .i64 n.r], .int .u8 c] w fun e w' => e = .returned (.bool (hasB n c)) ∧ Below w.heap.size w w' := by
  obtain ⟨k, d, s, l, r⟩ := n
  simp only
  obtain ⟨R, hR⟩ : ∃ R, R = hasB ⟨k, d, s, l, r⟩ c := ⟨_, rfl⟩
  rw [← hR]
  have hin := fun w' => strIndex_any s c w'
  have hI := index_in s.data.toList c h0 h1
  obtain ⟨J, hJ⟩ : ∃ J, J = Lib.indexByte s.data.toList c.toNat.toUInt8 := ⟨_, rfl⟩
  rw [← hJ] at hin hI
  have HJ : Hid _ := hJ
  clear hJ
  have HIN : Hid _ := hin
  clear hin
  have B1 : ∀ o, Below w.heap.size w (w.alloc o) := fun o => (Below.refl _ _).alloc (Nat.le_refl _) o
  unfold hasB inB at hR
  simp only at hR
  rw [← hI] at hR
  clear hI
  obtain ⟨D, hd⟩ : ∃ D, decide (0 ≤ J) = D := ⟨_, rfl⟩
  rw [hd] at hR
  cases D
  all_goals
    have hj := hd
    simp at hj
    clear hd
    by_cases k2 : k = 2
    · subst k2
      rw [if_pos rfl] at hR
      subst hR
      go_enter Try.func188, Try.ntmps188
      go_wp2_with fail
      refine (HIN.out _).mono ?_
      rintro e w' ⟨rfl, rfl⟩
      go_wp2
      go_ret
      exact ⟨by congr 2, B1 _⟩
    have k2' : (k == 2) = false := by simpa using k2
    rw [if_neg k2] at hR
    by_cases k3 : k = 3
    · subst k3
      rw [if_pos rfl] at hR
      by_cases c10 : c = 10
      all_goals
        have c10' : (c == 10) = decide (c = 10) := by by_cases h : c = 10 <;> simp [h]
        simp only [c10] at c10'
        first | subst c10 | skip
        obtain ⟨R', hR'⟩ : ∃ R', R' = R := ⟨_, rfl⟩
        have HR : Hid _ := hR
        clear hR hR'
        go_enter Try.func188, Try.ntmps188
        go_wp2_with fail
        refine (HIN.out _).mono ?_
        rintro e w' ⟨rfl, rfl⟩
        go_wp2
        go_ret
        exact ⟨ret_bool (by first | (rw [HR.out]; simp [*]) | simp [*]), B1 _⟩
    have k3' : (k == 3) = false := by simpa using k3
    rw [if_neg k3] at hR
    by_cases k4 : k = 4
    · subst k4
      rw [if_pos rfl] at hR
      subst hR
      go_enter Try.func188, Try.ntmps188
      go_wp2_with fail
      refine (HIN.out _).mono ?_
      rintro e w' ⟨rfl, rfl⟩
      go_wp2
      go_ret
      exact ⟨ret_bool (by first | (rw [HR.out]; simp [*]) | simp [*]), B1 _⟩
    have k4' : (k == 4) = false := by simpa using k4
    rw [if_neg k4] at hR
    by_cases k5 : k = 5
    · subst k5
      rw [if_pos rfl] at hR
      by_cases c10 : c = 10
      all_goals
        have c10' : (c == 10) = decide (c = 10) := by by_cases h : c = 10 <;> simp [h]
        simp only [c10] at c10'
        first | subst c10 | skip
        obtain ⟨R', hR'⟩ : ∃ R', R' = R := ⟨_, rfl⟩
        have HR : Hid _ := hR
        clear hR hR'
        go_enter Try.func188, Try.ntmps188
        go_wp2_with fail
        refine (HIN.out _).mono ?_
        rintro e w' ⟨rfl, rfl⟩
        go_wp2
        go_ret
        exact ⟨ret_bool (by first | (rw [HR.out]; simp [*]) | simp [*]), B1 _⟩
    have k5' : (k == 5) = false := by simpa using k5
    rw [if_neg k5] at hR
    subst hR
    go_enter Try.func188, Try.ntmps188
    go_wp2_with fail
    refine (HIN.out _).mono ?_
    rintro e w' ⟨rfl, rfl⟩
    go_wp2
    go_ret
    exact ⟨rfl, B1 _⟩
end Go.Proofs.Ytocophekfbhfbaa

namespace Go.Proofs.Ytocophekfbhfbaa
open Go.RowKit
set_option linter.unusedVariables false
set_option linter.unusedSimpArgs false

/-- All places of a set lie below n. -/
def BelowN (bs : List Bool) (n : Nat) : Prop := ∀ q, bs.getD q false = true → q < n

theorem dfsAll_snoc (tg : In → Option Nat × Option Nat) (is : List In) (bs : List Bool) (ps : List Int) (k : Nat) : dfsAll tg is bs (ps ++ [(k : Int)]) = dfs tg is 81 (dfsAll tg is bs ps) k := by
  unfold dfsAll
  rw [List.foldl_append, List.foldl_cons, List.foldl_nil, Int.toNat_natCast]

theorem placesTo_mem {bs : List Bool} {k : Nat} {p : Int} : p ∈ placesTo bs k ↔ ∃ q : Nat, p = q ∧ q < k ∧ bs.getD q false = true := by
  unfold placesTo
  simp only [List.mem_map, List.mem_filter, List.mem_range]
  constructor
  · rintro ⟨q, ⟨h1, h2⟩, rfl⟩; exact ⟨q, rfl, h1, h2⟩
  · rintro ⟨q, rfl, h1, h2⟩; exact ⟨q, ⟨h1, h2⟩, rfl⟩

theorem placesTo_lt {bs : List Bool} {k n : Nat} (h : BelowN bs n) : ∀ p ∈ placesTo bs k, p.toNat < n := by
  intro p hp
  obtain ⟨q, rfl, _, hq⟩ := placesTo_mem.1 hp
  simpa using h q hq

set_option maxHeartbeats 1600000 in
set_option maxRecDepth 20000 in
theorem closed_any (a : Option Addr) (n ca : Nat) (is : List In) (b e : Bool) (hin : Inside is) (hn : n ≤ 80) (bs : List Bool) (w : World) (hl : bs.length = 80) (hbn : BelowN bs n) (ha : RdR inE 8 w a n is) :
    Calls Try.prog 105 #[.agg (boolsA bs), .slice a n ca, .bool b, .bool e] w fun r w' => r = .returned (.agg (boolsA (closeI is b e (placesOf bs)))) ∧ Below w.heap.size w w' := by
  have hlen := ha.1
  obtain ⟨R, hR⟩ : ∃ R, R = boolsA (closeI is b e (placesOf bs)) := ⟨_, rfl⟩
  rw [← hR]
  have HR : Hid _ := hR
  obtain ⟨Z, hZ⟩ : ∃ Z, Z = boolsA (List.replicate 80 false) := ⟨_, rfl⟩
  have hzv := zero80
  rw [← hZ] at hzv
  have HZ : Hid _ := hZ
  have HZS : Hid (Z.size = 80) := by rw [hZ]; exact size_set80 (by simp)
  have HL : Hid _ := hl
  have HG : Hid _ := (goes_of hin b e).1
  have HLN : Hid _ := hlen
  have HBN : Hid _ := hbn
  obtain ⟨A, hA⟩ : ∃ A, A = boolsA bs := ⟨_, rfl⟩
  rw [← hA]
  have HS : Hid (A.size = 80) := by rw [hA]; exact size_set80 hl
  have HA : Hid _ := hA
  obtain ⟨W1, hW1⟩ : ∃ W1, W1 = (((w.alloc (.cells A 157)).alloc (.cells Z 157)).alloc (.cells Z 157)) := ⟨_, rfl⟩
  have HB0 : Hid (Blk W1 w.heap.size A 157) := by rw [hW1]; exact ((Blk.new w A 157).alloc _).alloc _
  have HB1 : Hid (Blk W1 (w.heap.size + 1) Z 157) := by
    have := (Blk.new (w.alloc (.cells A 157)) Z 157).alloc (.cells Z 157)
    rw [show (w.alloc (.cells A 157)).heap.size = w.heap.size + 1 by simp] at this
    rw [hW1]
    exact this
  have HB2 : Hid (Blk W1 (w.heap.size + 2) Z 157) := by
    have := Blk.new ((w.alloc (.cells A 157)).alloc (.cells Z 157)) Z 157
    rw [show ((w.alloc (.cells A 157)).alloc (.cells Z 157)).heap.size = w.heap.size + 2 by simp] at this
    rw [hW1]
    exact this
  have HW : Hid (Below w.heap.size w W1) := by
    rw [hW1]
    exact (((Below.refl _ _).alloc (Nat.le_refl _) _).alloc (by simp) _).alloc (by simp; omega) _
  have HSZ : Hid (w.heap.size + 2 < W1.heap.size) := by
    have : w.heap.size + 2 < W1.heap.size := by rw [hW1]; simp
    exact this
  rw [hW1] at HB0 HB1 HB2 HW HSZ
  clear hR hZ hl hlen hbn hA hW1 W1
  go_enter Try.func105, Try.ntmps105
  go_wp2_with ((with_reducible show wpList _ _ _ (({ dst := _, op := .load 157 _, type := _, pos := _, after := _, guard := _ } : Oper) :: _) _ _); refine wpList_load_row rfl 157 _ rfl _ rfl 157 (A) (0, 0) _ HB0.out under80 rfl (size80 HS.out) ?_)
  go_loopw [13] (fun i wr => ∃ k : Nat, k ≤ 80 ∧ i = .int .i64 k ∧ Hid (Blk wr (w.heap.size + 2) (boolsA (dfsAll (tgI b e) is (List.replicate 80 false) (placesTo bs k))) 157) ∧ Hid (Blk wr (w.heap.size + 1) Z 157) ∧ Below w.heap.size w wr ∧ w.heap.size + 2 < wr.heap.size) (fun i _ => 80 - (intOf i).toNat)
  case atStart =>
    have e : boolsA (dfsAll (tgI b e) is (List.replicate 80 false) (placesTo bs 0)) = Z := HZ.out.symm
    refine ⟨0, Nat.zero_le _, rfl, ?_, HB1, HW.out, HSZ.out⟩
    rw [e]
    exact HB2
  case round =>
    obtain ⟨k, hk, rfl, HBk, HB1k, hbw, hzw⟩ := hrel
    clear HB0 HB1 HB2 HW HSZ
    by_cases hlt : k < 80
    · have hlt' : (k : Int) < 80 := by omega
      have hAk := boolsA_at bs k (by rw [HL.out]; exact hlt)
      rw [← HA.out] at hAk
      cases hbk : bs.getD k false
      · rw [hbk] at hAk
        have hix := index80 hAk hlt
        rw [← placesTo_no hbk] at HBk
        clear hAk hbk
        go_wp2
        go_roundw
        case rel => exact ⟨k + 1, by omega, by go_num, HBk, HB1k, hbw, hzw⟩
        case measure => simp [intOf]; omega
      · rw [hbk] at hAk
        have hix := index80 hAk hlt
        have hkn := HBN.out k hbk
        have hS := dfsAll_len HG.out 80 (by rw [HLN.out]; exact hn) (Nat.le_refl _) (List.replicate 80 false) (by simp) (placesTo bs k) (fun p hp => by rw [HLN.out]; exact placesTo_lt HBN.out p hp)
        have hu := unM_le (dfsAll (tgI b e) is (List.replicate 80 false) (placesTo bs k))
        have hC := fun w' => entered_any a n ca is b e hin hn 81 (dfsAll (tgI b e) is (List.replicate 80 false) (placesTo bs k)) k w' hS hkn (by omega)
        have hd := dfs_dfs HG.out 81 (dfsAll (tgI b e) is (List.replicate 80 false) (placesTo bs k)) k (by rw [HLN.out, hS]; exact hn) (by rw [hS]; exact hlt) (by omega)
        have hS2 := hd.len
        rw [hS] at hS2
        clear hd
        rw [← dfsAll_snoc, ← placesTo_yes hbk] at hC hS2
        have HN : Hid (boolsA (dfsAll (tgI b e) is (List.replicate 80 false) (placesTo bs (k + 1))) = boolsA (dfsAll (tgI b e) is (List.replicate 80 false) (placesTo bs (k + 1)))) := (rfl : boolsA (dfsAll (tgI b e) is (List.replicate 80 false) (placesTo bs (k + 1))) = _)
        have HSx : Hid _ := size_set80 hS
        have HSy : Hid _ := size_set80 hS2
        have HOy : Hid _ := boolsA_one (dfsAll (tgI b e) is (List.replicate 80 false) (placesTo bs (k + 1)))
        obtain ⟨X, hX⟩ : ∃ X, X = boolsA (dfsAll (tgI b e) is (List.replicate 80 false) (placesTo bs k)) := ⟨_, rfl⟩
        obtain ⟨Y, hY⟩ : ∃ Y, Y = boolsA (dfsAll (tgI b e) is (List.replicate 80 false) (placesTo bs (k + 1))) := ⟨_, rfl⟩
        rw [← hX] at hC HBk HSx
        rw [← hY] at hC HSy HOy
        have HY : Hid _ := hY
        have HC : Hid _ := hC
        clear hAk hbk hS hu hC hS2 hX hY HN
        go_wp2_with ((with_reducible show wpList _ _ _ (({ dst := _, op := .load 157 _, type := _, pos := _, after := _, guard := _ } : Oper) :: _) _ _); refine wpList_load_row rfl 157 _ rfl _ rfl 157 (X) (0, 0) _ HBk.out under80 rfl (size80 HSx.out) ?_)
        refine (HC.out _ (ha.below hbw)).mono ?_
        rintro r' W2 ⟨rfl, hb2⟩
        have K2 : Hid (Blk W2 (w.heap.size + 2) X 157) := HBk.out.below hb2
        have K1 : Hid (Blk (W2.setRow (w.heap.size + 2) Y) (w.heap.size + 1) Z 157) := (HB1k.out.below hb2).otherRow (by omega) _
        have N2 : Hid (Blk (W2.setRow (w.heap.size + 2) Y) (w.heap.size + 2) (boolsA (dfsAll (tgI b e) is (List.replicate 80 false) (placesTo bs (k + 1)))) 157) := by rw [← HY.out]; exact K2.out.setRow _
        have KW : Hid (Below w.heap.size w (W2.setRow (w.heap.size + 2) Y)) := below_setRow (hbw.trans (hb2.mono hbw.size)) (by omega) _
        have KZ : Hid (w.heap.size + 2 < (W2.setRow (w.heap.size + 2) Y).heap.size) := by
          have := hb2.size
          have : w.heap.size + 2 < (W2.setRow (w.heap.size + 2) Y).heap.size := by rw [size_setRow]; omega
          exact this
        clear hb2
        go_wp2_with ((with_reducible show wpList _ _ _ (({ dst := _, op := .store 157 _ _, type := _, pos := _, after := _, guard := _ } : Oper) :: _) _ _); refine wpList_store_row rfl 157 _ _ rfl _ (Y) rfl rfl 157 (X) K2.out (size80 HSy.out) (HSx.out.trans HSy.out.symm) HOy.out ?_)
        go_roundw
        case rel => exact ⟨k + 1, by omega, by go_num, N2, K1, KW.out, KZ.out⟩
        case measure => simp [intOf]; omega
    · have hk80 : k = 80 := by omega
      subst hk80
      have e : placesTo bs 80 = placesOf bs := by unfold placesOf; rw [HL.out]
      have HBR : Hid (Blk wr (w.heap.size + 2) R 157) := by rw [HR.out]; unfold closeI; rw [← e]; exact HBk
      have HSR : Hid (R.size = 80) := by
        rw [HR.out]
        exact size_set80 (dfsAll_len HG.out 80 (by rw [HLN.out]; exact hn) (Nat.le_refl _) (List.replicate 80 false) (by simp) (placesOf bs) (fun p hp => by rw [HLN.out]; exact placesTo_lt HBN.out p hp))
      have HOR : Hid (R.all (·.oneCell') = true) := by rw [HR.out]; exact boolsA_one _
      clear HBk e
      go_wp2_with (first | ((with_reducible show wpList _ _ _ (({ dst := _, op := .load 157 _, type := _, pos := _, after := _, guard := _ } : Oper) :: _) _ _); refine wpList_load_row rfl 157 _ rfl _ rfl 157 (R) (0, 0) _ HBR.out under80 rfl (size80 HSR.out) ?_) | ((with_reducible show wpList _ _ _ (({ dst := _, op := .store 157 _ _, type := _, pos := _, after := _, guard := _ } : Oper) :: _) _ _); refine wpList_store_row rfl 157 _ _ rfl _ (R) rfl rfl 157 (Z) HB1k.out (size80 HSR.out) (HZS.out.trans HSR.out.symm) HOR.out ?_))
      refine bodyPost_ret (v := .agg R) ?_ rfl ⟨rfl, below_setRow hbw (by omega) _⟩
      exact results_cell_row rfl _ _ _ 157 R (0, 0) _ rfl (HB1k.out.setRow R) under80 rfl (size80 HSR.out)
end Go.Proofs.Ytocophekfbhfbaa

namespace Go.Proofs.Ytocophekfbhfbaa
open Go.RowKit
set_option linter.unusedVariables false
set_option linter.unusedSimpArgs false

/-- Over a byte from one place. -/
def stepGo (is : List In) (d : Int) (b : List Bool) (p : Int) : List Bool :=
  match is[p.toNat]? with
  | some i => if i.o = 1 ∧ hasB i.nd d = true then b.set i.x.toNat true else b
  | none => b
def stepI (is : List In) (d : Int) (ps : List Int) : List Bool := ps.foldl (stepGo is d) (List.replicate 80 false)
def stepS (is : List In) (d : Int) (ps : List Int) : List Bool := ps.foldl (stepGo is d) (List.replicate is.length false)

theorem stepFold_len (is : List In) (d : Int) (ps : List Int) (b : List Bool) : (ps.foldl (stepGo is d) b).length = b.length := by
  induction ps generalizing b with
  | nil => rfl
  | cons p ps ih =>
    rw [List.foldl_cons, ih]
    unfold stepGo
    split
    · split <;> simp
    · rfl
theorem stepI_len (is : List In) (d : Int) (ps : List Int) : (stepI is d ps).length = 80 := by unfold stepI; rw [stepFold_len]; simp
theorem stepI_snoc (is : List In) (d : Int) (ps : List Int) (p : Int) : stepI is d (ps ++ [p]) = stepGo is d (stepI is d ps) p := by
  unfold stepI
  rw [List.foldl_append, List.foldl_cons, List.foldl_nil]
theorem stepGo_at {is : List In} {d : Int} {b : List Bool} {j : Nat} {i : In} (h : is[j]? = some i) : stepGo is d b (j : Int) = if i.o = 1 ∧ hasB i.nd d = true then b.set i.x.toNat true else b := by
  unfold stepGo
  rw [Int.toNat_natCast, h]

/-- Is one of the places done? -/
def isDn (is : List In) (p : Int) : Bool := match is[p.toNat]? with | some i => decide (i.o = 6) | none => false
def doneL (is : List In) (ps : List Int) : Bool := ps.any (isDn is)
theorem isDn_at {is : List In} {j : Nat} {i : In} (h : is[j]? = some i) : isDn is (j : Int) = decide (i.o = 6) := by
  unfold isDn
  rw [Int.toNat_natCast, h]

set_option maxHeartbeats 1600000 in
set_option maxRecDepth 20000 in
theorem isDone_any (a : Option Addr) (n ca : Nat) (is : List In) (hn : n ≤ 80) (bs : List Bool) (w : World) (hl : bs.length = 80) (ha : RdR inE 8 w a n is) :
    Calls Try.prog 194 #[.agg (boolsA bs), .slice a n ca] w fun r w' => r = .returned (.bool (doneL is (placesTo bs n))) ∧ Below w.heap.size w w' := by
  obtain ⟨R, hR⟩ : ∃ R, R = doneL is (placesTo bs n) := ⟨_, rfl⟩
  rw [← hR]
  have HR : Hid _ := hR
  clear hR
  have hlen := ha.1
  have HL : Hid _ := hl
  have HLN : Hid _ := hlen
  obtain ⟨A, hA⟩ : ∃ A, A = boolsA bs := ⟨_, rfl⟩
  rw [← hA]
  have HS : Hid (A.size = 80) := by rw [hA]; exact size_set80 hl
  have HA : Hid _ := hA
  have HB0 : Hid (Blk (w.alloc (.cells A 157)) w.heap.size (boolsA bs) 157) := by rw [hA]; exact Blk.new w _ 157
  have HW : Hid (Below w.heap.size w (w.alloc (.cells A 157))) := (Below.refl _ _).alloc (Nat.le_refl _) _
  clear hl hlen hA
  go_enter Try.func194, Try.ntmps194
  go_wp2
  go_loopw [9] (fun i wr => ∃ j : Nat, j ≤ n ∧ i = .int .i64 j ∧ Hid (doneL is (placesTo bs j) = false) ∧ Hid (Blk wr w.heap.size (boolsA bs) 157) ∧ Below w.heap.size w wr ∧ w.heap.size < wr.heap.size) (fun i _ => n - (intOf i).toNat)
  case atStart => exact ⟨0, Nat.zero_le _, rfl, (rfl : doneL is (placesTo bs 0) = false), HB0, HW.out, by simp⟩
  case round =>
    obtain ⟨j, hj, rfl, hd, HBk0, hbw, hzw⟩ := hrel
    clear HB0 HW
    by_cases hlt : j < n
    · obtain ⟨b1, o1, i, rfl, hx, hc1⟩ := (ha.below hbw).at hlt
      obtain ⟨c0, c1, c2, c3, c4, c5, c6, c7⟩ := eight hc1
      have hb1 : b1 < wr.heap.size := block_lt_of_cell c0
      have hlt' : (j : Int) < (n : Int) := by omega
      have hj80 : j < 80 := by omega
      have hia := indexAt80 w.heap.size j hj80
      have hbj := HBk0.out.bool (j := j) (by rw [HL.out]; exact hj80)
      have hjn : w.heap.size < wr.heap.size := by omega
      have hd2 := hd.out
      cases hbk : bs.getD j false
      · have hd3 : Hid (doneL is (placesTo bs (j + 1)) = false) := by rw [placesTo_no hbk]; exact hd
        rw [hbk] at hbj
        clear hx hc1 hd hd2 hbk
        obtain ⟨o, k, c, s, l, r, x, y⟩ := i
        simp only at c0 c1 c2 c3 c4 c5 c6 c7
        have HB9 : Hid (Blk (wr.alloc (.cells #[.int .i64 o, .int .i64 k, .int .i64 c, .string s, .int .i64 l, .int .i64 r, .int .i64 x, .int .i64 y] 252)) w.heap.size (boolsA bs) 157) := HBk0.out.alloc _
        go_wp2
        go_roundw
        case rel => exact ⟨j + 1, by omega, by go_num, hd3, HB9, hbw.alloc hbw.size _, by simp; omega⟩
        case measure => simp [intOf]; omega
      · have hnx : doneL is (placesTo bs (j + 1)) = decide (i.o = 6) := by
          rw [placesTo_yes hbk]
          unfold doneL at hd2 ⊢
          rw [List.any_append, hd2]
          simp [isDn_at hx]
        rw [hbk] at hbj
        have hmem : (j : Int) ∈ placesTo bs n := placesTo_mem.2 ⟨j, rfl, hlt, hbk⟩
        have HM : Hid (isDn is (j : Int) = decide (i.o = 6)) := isDn_at hx
        clear hx hc1 hd hd2 hbk
        obtain ⟨o, k, c, s, l, r, x, y⟩ := i
        simp only at c0 c1 c2 c3 c4 c5 c6 c7 hnx HM
        have HB9 : Hid (Blk (wr.alloc (.cells #[.int .i64 o, .int .i64 k, .int .i64 c, .string s, .int .i64 l, .int .i64 r, .int .i64 x, .int .i64 y] 252)) w.heap.size (boolsA bs) 157) := HBk0.out.alloc _
        by_cases ho : o = 6
        · subst ho
          have hfin : true = R := by
            rw [HR.out]
            unfold doneL
            rw [eq_comm, List.any_eq_true]
            exact ⟨(j : Int), hmem, by rw [HM.out]; rfl⟩
          clear hnx hmem HM HR
          subst hfin
          go_wp2
          go_ret
          exact ⟨rfl, hbw.alloc hbw.size _⟩
        · have ho' : (o == 6) = false := by simpa using ho
          rw [decide_eq_false ho] at hnx
          have hd3 : Hid (doneL is (placesTo bs (j + 1)) = false) := hnx
          clear hnx hmem HM
          go_wp2
          go_roundw
          case rel => exact ⟨j + 1, by omega, by go_num, hd3, HB9, hbw.alloc hbw.size _, by simp; omega⟩
          case measure => simp [intOf]; omega
    · obtain rfl : j = n := by omega
      have hfin : false = R := by rw [HR.out, hd.out]
      clear HR
      subst hfin
      go_wp2
      go_ret
      exact ⟨rfl, hbw⟩

set_option maxHeartbeats 3200000 in
set_option maxRecDepth 20000 in
theorem stepped_any (a : Option Addr) (n ca : Nat) (is : List In) (hin : Inside is) (d : Int) (hd0 : 0 ≤ d) (hd1 : d < 256) (hn : n ≤ 80) (bs : List Bool) (w : World) (hl : bs.length = 80) (ha : RdR inE 8 w a n is) :
    Calls Try.prog 110 #[.agg (boolsA bs), .slice a n ca, .int .u8 d] w fun r w' => r = .returned (.agg (boolsA (stepI is d (placesTo bs n)))) ∧ Below w.heap.size w w' := by
  obtain ⟨R, hR⟩ : ∃ R, R = boolsA (stepI is d (placesTo bs n)) := ⟨_, rfl⟩
  rw [← hR]
  have HR : Hid _ := hR
  clear hR
  obtain ⟨Z, hZ⟩ : ∃ Z, Z = boolsA (List.replicate 80 false) := ⟨_, rfl⟩
  have hzv := zero80
  rw [← hZ] at hzv
  have HZ : Hid _ := hZ
  have HZS : Hid (Z.size = 80) := by rw [hZ]; exact size_set80 (by simp)
  have hlen := ha.1
  have HL : Hid _ := hl
  have HLN : Hid _ := hlen
  obtain ⟨A, hA⟩ : ∃ A, A = boolsA bs := ⟨_, rfl⟩
  rw [← hA]
  have HS : Hid (A.size = 80) := by rw [hA]; exact size_set80 hl
  have HA : Hid _ := hA
  obtain ⟨W1, hW1⟩ : ∃ W1, W1 = (((w.alloc (.cells A 157)).alloc (.cells Z 157)).alloc (.cells Z 157)) := ⟨_, rfl⟩
  have HB0 : Hid (Blk W1 w.heap.size (boolsA bs) 157) := by rw [hW1, ← hA]; exact ((Blk.new w A 157).alloc _).alloc _
  have HB1 : Hid (Blk W1 (w.heap.size + 1) Z 157) := by
    have := (Blk.new (w.alloc (.cells A 157)) Z 157).alloc (.cells Z 157)
    rw [show (w.alloc (.cells A 157)).heap.size = w.heap.size + 1 by simp] at this
    rw [hW1]
    exact this
  have HB2 : Hid (Blk W1 (w.heap.size + 2) Z 157) := by
    have := Blk.new ((w.alloc (.cells A 157)).alloc (.cells Z 157)) Z 157
    rw [show ((w.alloc (.cells A 157)).alloc (.cells Z 157)).heap.size = w.heap.size + 2 by simp] at this
    rw [hW1]
    exact this
  have HW : Hid (Below w.heap.size w W1) := by
    rw [hW1]
    exact (((Below.refl _ _).alloc (Nat.le_refl _) _).alloc (by simp) _).alloc (by simp; omega) _
  have HSZ : Hid (w.heap.size + 2 < W1.heap.size) := by
    have : w.heap.size + 2 < W1.heap.size := by rw [hW1]; simp
    exact this
  rw [hW1] at HB0 HB1 HB2 HW HSZ
  clear hZ hl hlen hA hW1 W1
  go_enter Try.func110, Try.ntmps110
  go_wp2
  go_loopw [12] (fun i wr => ∃ j : Nat, j ≤ n ∧ i = .int .i64 j ∧ Hid (Blk wr w.heap.size (boolsA bs) 157) ∧ Hid (Blk wr (w.heap.size + 1) Z 157) ∧ Hid (Blk wr (w.heap.size + 2) (boolsA (stepI is d (placesTo bs j))) 157) ∧ Below w.heap.size w wr ∧ w.heap.size + 2 < wr.heap.size) (fun i _ => n - (intOf i).toNat)
  case atStart =>
    have e : boolsA (stepI is d (placesTo bs 0)) = Z := HZ.out.symm
    refine ⟨0, Nat.zero_le _, rfl, HB0, HB1, ?_, HW.out, HSZ.out⟩
    rw [e]
    exact HB2
  case round =>
    obtain ⟨j, hj, rfl, HBk0, HBk1, HBk2, hbw, hzw⟩ := hrel
    clear HB0 HB1 HB2 HW HSZ
    by_cases hlt : j < n
    · obtain ⟨b1, o1, i, rfl, hx, hc1⟩ := (ha.below hbw).at hlt
      obtain ⟨c0, c1, c2, c3, c4, c5, c6, c7⟩ := eight hc1
      have hb1 : b1 < wr.heap.size := block_lt_of_cell c0
      have hlt' : (j : Int) < (n : Int) := by omega
      have hj80 : j < 80 := by omega
      have hia := indexAt80 w.heap.size j hj80
      have hbj := HBk0.out.bool (j := j) (by rw [HL.out]; exact hj80)
      have hjn : w.heap.size < wr.heap.size := by omega
      have hI := hin i (List.mem_of_getElem? hx)
      have HNX : Hid _ := stepGo_at (d := d) (b := stepI is d (placesTo bs j)) hx
      have HH : Hid _ := fun w' => implHasByte_any i.nd d w' hd0 hd1
      obtain ⟨H, hH⟩ : ∃ H, H = hasB i.nd d := ⟨_, rfl⟩
      rw [← hH] at HNX HH
      cases hbk : bs.getD j false
      · rw [← placesTo_no hbk] at HBk2
        rw [hbk] at hbj
        clear hx hc1 hbk hI HNX hH HH
        obtain ⟨o, k, c, s, l, r, x, y⟩ := i
        simp only at c0 c1 c2 c3 c4 c5 c6 c7
        have B0 : Hid (Blk (wr.alloc (.cells #[.int .i64 o, .int .i64 k, .int .i64 c, .string s, .int .i64 l, .int .i64 r, .int .i64 x, .int .i64 y] 252)) w.heap.size (boolsA bs) 157) := HBk0.out.alloc _
        have B1 : Hid (Blk (wr.alloc (.cells #[.int .i64 o, .int .i64 k, .int .i64 c, .string s, .int .i64 l, .int .i64 r, .int .i64 x, .int .i64 y] 252)) (w.heap.size + 1) Z 157) := HBk1.out.alloc _
        have B2 : Hid (Blk (wr.alloc (.cells #[.int .i64 o, .int .i64 k, .int .i64 c, .string s, .int .i64 l, .int .i64 r, .int .i64 x, .int .i64 y] 252)) (w.heap.size + 2) (boolsA (stepI is d (placesTo bs (j + 1)))) 157) := HBk2.out.alloc _
        go_wp2
        go_roundw
        case rel => exact ⟨j + 1, by omega, by go_num, B0, B1, B2, hbw.alloc hbw.size _, by simp; omega⟩
        case measure => simp [intOf]; omega
      rw [hbk] at hbj
      have hpl := placesTo_yes hbk
      have HPL : Hid _ := hpl
      clear hx hc1 hbk hH hpl
      obtain ⟨o, k, c, s, l, r, x, y⟩ := i
      simp only [In.nd] at c0 c1 c2 c3 c4 c5 c6 c7 HNX HH hI
      obtain ⟨⟨hx0, hxn⟩, -⟩ := hI
      obtain ⟨xn, rfl⟩ : ∃ q : Nat, x = (q : Int) := ⟨x.toNat, by omega⟩
      have hx80 : xn < 80 := by have := HLN.out; omega
      by_cases ho : o = 1
      case neg =>
        have ho' : (o == 1) = false := by simpa using ho
        have e : stepI is d (placesTo bs (j + 1)) = stepI is d (placesTo bs j) := by rw [HPL.out, stepI_snoc, HNX.out, if_neg (by simp [ho])]
        rw [← e] at HBk2
        clear HNX HH HPL e
        have B0 : Hid (Blk (wr.alloc (.cells #[.int .i64 o, .int .i64 k, .int .i64 c, .string s, .int .i64 l, .int .i64 r, .int .i64 (xn : Int), .int .i64 y] 252)) w.heap.size (boolsA bs) 157) := HBk0.out.alloc _
        have B1 : Hid (Blk (wr.alloc (.cells #[.int .i64 o, .int .i64 k, .int .i64 c, .string s, .int .i64 l, .int .i64 r, .int .i64 (xn : Int), .int .i64 y] 252)) (w.heap.size + 1) Z 157) := HBk1.out.alloc _
        have B2 : Hid (Blk (wr.alloc (.cells #[.int .i64 o, .int .i64 k, .int .i64 c, .string s, .int .i64 l, .int .i64 r, .int .i64 (xn : Int), .int .i64 y] 252)) (w.heap.size + 2) (boolsA (stepI is d (placesTo bs (j + 1)))) 157) := HBk2.out.alloc _
        go_wp2
        go_roundw
        case rel => exact ⟨j + 1, by omega, by go_num, B0, B1, B2, hbw.alloc hbw.size _, by simp; omega⟩
        case measure => simp [intOf]; omega
      subst ho
      have B0 : Hid (Blk (wr.alloc (.cells #[.int .i64 1, .int .i64 k, .int .i64 c, .string s, .int .i64 l, .int .i64 r, .int .i64 (xn : Int), .int .i64 y] 252)) w.heap.size (boolsA bs) 157) := HBk0.out.alloc _
      have B1 : Hid (Blk (wr.alloc (.cells #[.int .i64 1, .int .i64 k, .int .i64 c, .string s, .int .i64 l, .int .i64 r, .int .i64 (xn : Int), .int .i64 y] 252)) (w.heap.size + 1) Z 157) := HBk1.out.alloc _
      have B2 : Hid (Blk (wr.alloc (.cells #[.int .i64 1, .int .i64 k, .int .i64 c, .string s, .int .i64 l, .int .i64 r, .int .i64 (xn : Int), .int .i64 y] 252)) (w.heap.size + 2) (boolsA (stepI is d (placesTo bs j))) 157) := HBk2.out.alloc _
      have BW : Hid (Below w.heap.size w (wr.alloc (.cells #[.int .i64 1, .int .i64 k, .int .i64 c, .string s, .int .i64 l, .int .i64 r, .int .i64 (xn : Int), .int .i64 y] 252))) := hbw.alloc hbw.size _
      cases H
      · have e : stepI is d (placesTo bs (j + 1)) = stepI is d (placesTo bs j) := by rw [HPL.out, stepI_snoc, HNX.out, if_neg (by simp)]
        rw [← e] at B2
        clear HNX HPL e
        go_wp2_with fail
        refine (HH.out _).mono ?_
        rintro r' w2 ⟨rfl, hb2⟩
        have D0 : Hid (Blk w2 w.heap.size (boolsA bs) 157) := B0.out.below hb2
        have D1 : Hid (Blk w2 (w.heap.size + 1) Z 157) := B1.out.below hb2
        have D2 : Hid (Blk w2 (w.heap.size + 2) (boolsA (stepI is d (placesTo bs (j + 1)))) 157) := B2.out.below hb2
        have DW : Hid (Below w.heap.size w w2) := BW.out.trans (hb2.mono BW.out.size)
        have DZ : Hid (w.heap.size + 2 < w2.heap.size) := D2.out.lt
        clear hb2
        go_wp2
        go_roundw
        case rel => exact ⟨j + 1, by omega, by go_num, D0, D1, D2, DW.out, DZ.out⟩
        case measure => simp [intOf]; omega
      · have e : stepI is d (placesTo bs (j + 1)) = (stepI is d (placesTo bs j)).set xn true := by rw [HPL.out, stepI_snoc, HNX.out, if_pos (by simp)]; simp
        have HE : Hid _ := e
        clear HNX HPL e
        have hia2 := indexAt80 (w.heap.size + 2) xn hx80
        rw [show w.heap.size + 2 = w.heap.size + 1 + 1 from rfl] at hia2
        have hxx : (xn : Int) < 80 := by omega
        go_wp2_with fail
        refine (HH.out _).mono ?_
        rintro r' w2 ⟨rfl, hb2⟩
        have ci : w2.cell? ⟨wr.heap.size, 6, none⟩ = some (.int .i64 (xn : Int)) := cell_later hb2 (by simp [go_sem])
        have cb := (B2.out.below hb2).bool (j := xn) (by rw [stepI_len]; exact hx80)
        have cf := (B2.out.below hb2).frozen xn
        rw [show w.heap.size + 2 = w.heap.size + 1 + 1 from rfl] at cb cf
        have D0 : Hid (Blk (w2.setCell ⟨w.heap.size + 1 + 1, xn, none⟩ (.bool true)) w.heap.size (boolsA bs) 157) := (B0.out.below hb2).other (by omega) _
        have D1 : Hid (Blk (w2.setCell ⟨w.heap.size + 1 + 1, xn, none⟩ (.bool true)) (w.heap.size + 1) Z 157) := (B1.out.below hb2).other (by omega) _
        have D2 : Hid (Blk (w2.setCell ⟨w.heap.size + 1 + 1, xn, none⟩ (.bool true)) (w.heap.size + 2) (boolsA (stepI is d (placesTo bs (j + 1)))) 157) := by rw [HE.out]; exact (B2.out.below hb2).mark xn true
        have DW : Hid (Below w.heap.size w (w2.setCell ⟨w.heap.size + 1 + 1, xn, none⟩ (.bool true))) := (BW.out.trans (hb2.mono BW.out.size)).setCell (by simp; omega) _
        have DZ : Hid (w.heap.size + 2 < (w2.setCell ⟨w.heap.size + 1 + 1, xn, none⟩ (.bool true)).heap.size) := D2.out.lt
        generalize (stepI is d (placesTo bs j)).getD xn false = bx at cb
        clear hb2 HE
        go_wp2
        go_roundw
        case rel => exact ⟨j + 1, by omega, by go_num, D0, D1, D2, DW.out, DZ.out⟩
        case measure => simp [intOf]; omega
    · obtain rfl : j = n := by omega
      have HBR : Hid (Blk wr (w.heap.size + 2) R 157) := by rw [HR.out]; exact HBk2
      have HSR : Hid (R.size = 80) := by rw [HR.out]; exact size_set80 (stepI_len _ _ _)
      have HOR : Hid (R.all (·.oneCell') = true) := by rw [HR.out]; exact boolsA_one _
      clear HBk2
      go_wp2_with (first | ((with_reducible show wpList _ _ _ (({ dst := _, op := .load 157 _, type := _, pos := _, after := _, guard := _ } : Oper) :: _) _ _); refine wpList_load_row rfl 157 _ rfl _ rfl 157 (R) (0, 0) _ HBR.out under80 rfl (size80 HSR.out) ?_) | ((with_reducible show wpList _ _ _ (({ dst := _, op := .store 157 _ _, type := _, pos := _, after := _, guard := _ } : Oper) :: _) _ _); refine wpList_store_row rfl 157 _ _ rfl _ (R) rfl rfl 157 (Z) HBk1.out (size80 HSR.out) (HZS.out.trans HSR.out.symm) HOR.out ?_))
      refine bodyPost_ret (v := .agg R) ?_ rfl ⟨rfl, below_setRow hbw (by omega) _⟩
      exact results_cell_row rfl _ _ _ 157 R (0, 0) _ rfl (HBk1.out.setRow R) under80 rfl (size80 HSR.out)
end Go.Proofs.Ytocophekfbhfbaa
