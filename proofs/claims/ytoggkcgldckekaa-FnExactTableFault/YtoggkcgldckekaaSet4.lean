/-
  Chapter 7: the program's sets: closed, isDone, stepped.
-/
import Derived.Test.YtoggkcgldckekaaSet3
import Derived.Test.YtoggkcgldckekaaNode3
namespace Go.Proofs.Ytoggkcgldckekaa
open Go.RowKit
set_option linter.unusedVariables false
set_option linter.unusedSimpArgs false

/-- All places of a set lie below n. -/
def BelowN (bs : List Bool) (n : Nat) : Prop := ∀ q, bs.getD q false = true → q < n

theorem dfsAll_snoc (tg : In → Option Nat × Option Nat) (is : List In) (bs : List Bool) (ps : List Int) (k : Nat) : dfsAll tg is bs (ps ++ [(k : Int)]) = dfs tg is 81 (dfsAll tg is bs ps) k := by
  unfold dfsAll
  rw [List.foldl_append, List.foldl_cons, List.foldl_nil, Int.toNat_natCast]

theorem placesTo_mem {bs : List Bool} {k : Nat} {p : Int} : p ∈ placesTo bs k ↔ ∃ q : Nat, p = q ∧ q < k ∧ bs.getD q false = true := by
  unfold placesTo
  simp only [List.mem_map, List.mem_filter, List.mem_range]
  constructor
  · rintro ⟨q, ⟨h1, h2⟩, rfl⟩; exact ⟨q, rfl, h1, h2⟩
  · rintro ⟨q, rfl, h1, h2⟩; exact ⟨q, ⟨h1, h2⟩, rfl⟩

theorem placesTo_lt {bs : List Bool} {k n : Nat} (h : BelowN bs n) : ∀ p ∈ placesTo bs k, p.toNat < n := by
  intro p hp
  obtain ⟨q, rfl, _, hq⟩ := placesTo_mem.1 hp
  simpa using h q hq

set_option maxHeartbeats 1600000 in
set_option maxRecDepth 20000 in
theorem closed_any (a : Option Addr) (n ca : Nat) (is : List In) (b e : Bool) (hin : Inside is) (hn : n ≤ 80) (bs : List Bool) (w : World) (hl : bs.length = 80) (hbn : BelowN bs n) (ha : RdR inE 8 w a n is) :
    Calls Try.prog 55 #[.agg (boolsA bs), .slice a n ca, .bool b, .bool e] w fun r w' => r = .returned (.agg (boolsA (closeI is b e (placesOf bs)))) ∧ Below w.heap.size w w' := by
  have hlen := ha.1
  obtain ⟨R, hR⟩ : ∃ R, R = boolsA (closeI is b e (placesOf bs)) := ⟨_, rfl⟩
  rw [← hR]
  have HR : Hid _ := hR
  obtain ⟨Z, hZ⟩ : ∃ Z, Z = boolsA (List.replicate 80 false) := ⟨_, rfl⟩
  have hzv := zero80
  rw [← hZ] at hzv
  have HZ : Hid _ := hZ
  have HZS : Hid (Z.size = 80) := by rw [hZ]; exact size_set80 (by simp)
  have HL : Hid _ := hl
  have HG : Hid _ := (goes_of hin b e).1
  have HLN : Hid _ := hlen
  have HBN : Hid _ := hbn
  obtain ⟨A, hA⟩ : ∃ A, A = boolsA bs := ⟨_, rfl⟩
  rw [← hA]
  have HS : Hid (A.size = 80) := by rw [hA]; exact size_set80 hl
  have HA : Hid _ := hA
  obtain ⟨W1, hW1⟩ : ∃ W1, W1 = (((w.alloc (.cells A 86)).alloc (.cells Z 86)).alloc (.cells Z 86)) := ⟨_, rfl⟩
  have HB0 : Hid (Blk W1 w.heap.size A 86) := by rw [hW1]; exact ((Blk.new w A 86).alloc _).alloc _
  have HB1 : Hid (Blk W1 (w.heap.size + 1) Z 86) := by
    have := (Blk.new (w.alloc (.cells A 86)) Z 86).alloc (.cells Z 86)
    rw [show (w.alloc (.cells A 86)).heap.size = w.heap.size + 1 by simp] at this
    rw [hW1]
    exact this
  have HB2 : Hid (Blk W1 (w.heap.size + 2) Z 86) := by
    have := Blk.new ((w.alloc (.cells A 86)).alloc (.cells Z 86)) Z 86
    rw [show ((w.alloc (.cells A 86)).alloc (.cells Z 86)).heap.size = w.heap.size + 2 by simp] at this
    rw [hW1]
    exact this
  have HW : Hid (Below w.heap.size w W1) := by
    rw [hW1]
    exact (((Below.refl _ _).alloc (Nat.le_refl _) _).alloc (by simp) _).alloc (by simp; omega) _
  have HSZ : Hid (w.heap.size + 2 < W1.heap.size) := by
    have : w.heap.size + 2 < W1.heap.size := by rw [hW1]; simp
    exact this
  rw [hW1] at HB0 HB1 HB2 HW HSZ
  clear hR hZ hl hlen hbn hA hW1 W1
  go_enter Try.func55, Try.ntmps55
  go_wp2_with ((with_reducible show wpList _ _ _ (({ dst := _, op := .load 86 _, type := _, pos := _, after := _, guard := _ } : Oper) :: _) _ _); refine wpList_load_row rfl 86 _ rfl _ rfl 86 (A) (0, 0) _ HB0.out under80 rfl (size80 HS.out) ?_)
  go_loopw [13] (fun i wr => ∃ k : Nat, k ≤ 80 ∧ i = .int .i64 k ∧ Hid (Blk wr (w.heap.size + 2) (boolsA (dfsAll (tgI b e) is (List.replicate 80 false) (placesTo bs k))) 86) ∧ Hid (Blk wr (w.heap.size + 1) Z 86) ∧ Below w.heap.size w wr ∧ w.heap.size + 2 < wr.heap.size) (fun i _ => 80 - (intOf i).toNat)
  case atStart =>
    have e : boolsA (dfsAll (tgI b e) is (List.replicate 80 false) (placesTo bs 0)) = Z := HZ.out.symm
    refine ⟨0, Nat.zero_le _, rfl, ?_, HB1, HW.out, HSZ.out⟩
    rw [e]
    exact HB2
  case round =>
    obtain ⟨k, hk, rfl, HBk, HB1k, hbw, hzw⟩ := hrel
    clear HB0 HB1 HB2 HW HSZ
    by_cases hlt : k < 80
    · have hlt' : (k : Int) < 80 := by omega
      have hAk := boolsA_at bs k (by rw [HL.out]; exact hlt)
      rw [← HA.out] at hAk
      cases hbk : bs.getD k false
      · rw [hbk] at hAk
        have hix := index80 hAk hlt
        rw [← placesTo_no hbk] at HBk
        clear hAk hbk
        go_wp2
        go_roundw
        case rel => exact ⟨k + 1, by omega, by go_num, HBk, HB1k, hbw, hzw⟩
        case measure => simp [intOf]; omega
      · rw [hbk] at hAk
        have hix := index80 hAk hlt
        have hkn := HBN.out k hbk
        have hS := dfsAll_len HG.out 80 (by rw [HLN.out]; exact hn) (Nat.le_refl _) (List.replicate 80 false) (by simp) (placesTo bs k) (fun p hp => by rw [HLN.out]; exact placesTo_lt HBN.out p hp)
        have hu := unM_le (dfsAll (tgI b e) is (List.replicate 80 false) (placesTo bs k))
        have hC := fun w' => entered_any a n ca is b e hin hn 81 (dfsAll (tgI b e) is (List.replicate 80 false) (placesTo bs k)) k w' hS hkn (by omega)
        have hd := dfs_dfs HG.out 81 (dfsAll (tgI b e) is (List.replicate 80 false) (placesTo bs k)) k (by rw [HLN.out, hS]; exact hn) (by rw [hS]; exact hlt) (by omega)
        have hS2 := hd.len
        rw [hS] at hS2
        clear hd
        rw [← dfsAll_snoc, ← placesTo_yes hbk] at hC hS2
        have HN : Hid (boolsA (dfsAll (tgI b e) is (List.replicate 80 false) (placesTo bs (k + 1))) = boolsA (dfsAll (tgI b e) is (List.replicate 80 false) (placesTo bs (k + 1)))) := (rfl : boolsA (dfsAll (tgI b e) is (List.replicate 80 false) (placesTo bs (k + 1))) = _)
        have HSx : Hid _ := size_set80 hS
        have HSy : Hid _ := size_set80 hS2
        have HOy : Hid _ := boolsA_one (dfsAll (tgI b e) is (List.replicate 80 false) (placesTo bs (k + 1)))
        obtain ⟨X, hX⟩ : ∃ X, X = boolsA (dfsAll (tgI b e) is (List.replicate 80 false) (placesTo bs k)) := ⟨_, rfl⟩
        obtain ⟨Y, hY⟩ : ∃ Y, Y = boolsA (dfsAll (tgI b e) is (List.replicate 80 false) (placesTo bs (k + 1))) := ⟨_, rfl⟩
        rw [← hX] at hC HBk HSx
        rw [← hY] at hC HSy HOy
        have HY : Hid _ := hY
        have HC : Hid _ := hC
        clear hAk hbk hS hu hC hS2 hX hY HN
        go_wp2_with ((with_reducible show wpList _ _ _ (({ dst := _, op := .load 86 _, type := _, pos := _, after := _, guard := _ } : Oper) :: _) _ _); refine wpList_load_row rfl 86 _ rfl _ rfl 86 (X) (0, 0) _ HBk.out under80 rfl (size80 HSx.out) ?_)
        refine (HC.out _ (ha.below hbw)).mono ?_
        rintro r' W2 ⟨rfl, hb2⟩
        have K2 : Hid (Blk W2 (w.heap.size + 2) X 86) := HBk.out.below hb2
        have K1 : Hid (Blk (W2.setRow (w.heap.size + 2) Y) (w.heap.size + 1) Z 86) := (HB1k.out.below hb2).otherRow (by omega) _
        have N2 : Hid (Blk (W2.setRow (w.heap.size + 2) Y) (w.heap.size + 2) (boolsA (dfsAll (tgI b e) is (List.replicate 80 false) (placesTo bs (k + 1)))) 86) := by rw [← HY.out]; exact K2.out.setRow _
        have KW : Hid (Below w.heap.size w (W2.setRow (w.heap.size + 2) Y)) := below_setRow (hbw.trans (hb2.mono hbw.size)) (by omega) _
        have KZ : Hid (w.heap.size + 2 < (W2.setRow (w.heap.size + 2) Y).heap.size) := by
          have := hb2.size
          have : w.heap.size + 2 < (W2.setRow (w.heap.size + 2) Y).heap.size := by rw [size_setRow]; omega
          exact this
        clear hb2
        go_wp2_with ((with_reducible show wpList _ _ _ (({ dst := _, op := .store 86 _ _, type := _, pos := _, after := _, guard := _ } : Oper) :: _) _ _); refine wpList_store_row rfl 86 _ _ rfl _ (Y) rfl rfl 86 (X) K2.out (size80 HSy.out) (HSx.out.trans HSy.out.symm) HOy.out ?_)
        go_roundw
        case rel => exact ⟨k + 1, by omega, by go_num, N2, K1, KW.out, KZ.out⟩
        case measure => simp [intOf]; omega
    · have hk80 : k = 80 := by omega
      subst hk80
      have e : placesTo bs 80 = placesOf bs := by unfold placesOf; rw [HL.out]
      have HBR : Hid (Blk wr (w.heap.size + 2) R 86) := by rw [HR.out]; unfold closeI; rw [← e]; exact HBk
      have HSR : Hid (R.size = 80) := by
        rw [HR.out]
        exact size_set80 (dfsAll_len HG.out 80 (by rw [HLN.out]; exact hn) (Nat.le_refl _) (List.replicate 80 false) (by simp) (placesOf bs) (fun p hp => by rw [HLN.out]; exact placesTo_lt HBN.out p hp))
      have HOR : Hid (R.all (·.oneCell') = true) := by rw [HR.out]; exact boolsA_one _
      clear HBk e
      go_wp2_with (first | ((with_reducible show wpList _ _ _ (({ dst := _, op := .load 86 _, type := _, pos := _, after := _, guard := _ } : Oper) :: _) _ _); refine wpList_load_row rfl 86 _ rfl _ rfl 86 (R) (0, 0) _ HBR.out under80 rfl (size80 HSR.out) ?_) | ((with_reducible show wpList _ _ _ (({ dst := _, op := .store 86 _ _, type := _, pos := _, after := _, guard := _ } : Oper) :: _) _ _); refine wpList_store_row rfl 86 _ _ rfl _ (R) rfl rfl 86 (Z) HB1k.out (size80 HSR.out) (HZS.out.trans HSR.out.symm) HOR.out ?_))
      refine bodyPost_ret (v := .agg R) ?_ rfl ⟨rfl, below_setRow hbw (by omega) _⟩
      exact results_cell_row rfl _ _ _ 86 R (0, 0) _ rfl (HB1k.out.setRow R) under80 rfl (size80 HSR.out)
end Go.Proofs.Ytoggkcgldckekaa
