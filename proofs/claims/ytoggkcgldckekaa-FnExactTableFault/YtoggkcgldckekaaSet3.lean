/-
  Chapter 7: the program's sets: entered.
-/
import Derived.Test.YtoggkcgldckekaaSet2
namespace Go.Proofs.Ytoggkcgldckekaa
open Go.RowKit
set_option linter.unusedVariables false
set_option linter.unusedSimpArgs false

theorem dfs_marked {tg : In → Option Nat × Option Nat} {is : List In} {f : Nat} {bs : List Bool} {p : Nat} (h : bs.getD p false = true) : dfs tg is (f + 1) bs p = bs := by
  unfold dfs; rw [if_pos h]
theorem dfs_two {b e : Bool} {is : List In} {f : Nat} {bs : List Bool} {p : Nat} {i : In} (h : bs.getD p false = false) (hi : is[p]? = some i) (ho : i.o = 2) :
    dfs (tgI b e) is (f + 1) bs p = dfs (tgI b e) is f (dfs (tgI b e) is f (bs.set p true) i.y.toNat) i.x.toNat := by
  rw [dfs, if_neg (by rw [h]; simp), hi]
  simp [tgI, ho, goesX]
theorem dfs_one {b e : Bool} {is : List In} {f : Nat} {bs : List Bool} {p : Nat} {i : In} (h : bs.getD p false = false) (hi : is[p]? = some i) (ho : i.o ≠ 2) (hg : goesX b e i = true) :
    dfs (tgI b e) is (f + 1) bs p = dfs (tgI b e) is f (bs.set p true) i.x.toNat := by
  rw [dfs, if_neg (by rw [h]; simp), hi]
  simp [tgI, ho, hg]
theorem dfs_end {b e : Bool} {is : List In} {f : Nat} {bs : List Bool} {p : Nat} {i : In} (h : bs.getD p false = false) (hi : is[p]? = some i) (ho : i.o ≠ 2) (hg : goesX b e i = false) :
    dfs (tgI b e) is (f + 1) bs p = bs.set p true := by
  rw [dfs, if_neg (by rw [h]; simp), hi]
  simp [tgI, ho, hg]

set_option maxHeartbeats 6400000 in
set_option maxRecDepth 20000 in
theorem entered_any (a : Option Addr) (n ca : Nat) (is : List In) (b e : Bool) (hin : Inside is) (hn : n ≤ 80) : ∀ (f : Nat) (bs : List Bool) (p : Nat) (w : World), bs.length = 80 → p < n → unM bs < f → RdR inE 8 w a n is →
    Calls Try.prog 98 #[.agg (boolsA bs), .slice a n ca, .int .i64 (p : Int), .bool b, .bool e] w fun r w' => r = .returned (.agg (boolsA (dfs (tgI b e) is f bs p))) ∧ Below w.heap.size w w'
  | 0, bs, p, w, hl, hp, hu, ha => by omega
  | f + 1, bs, p, w, hl, hp, hu, ha => by
    have ih := fun bs' p' w' => entered_any a n ca is b e hin hn f bs' p' w'
    have hlen := ha.1
    have hp80 : p < 80 := by omega
    obtain ⟨Z, hZ⟩ : ∃ Z, Z = boolsA (List.replicate 80 false) := ⟨_, rfl⟩
    have hzv := zero80
    rw [← hZ] at hzv
    have HZS : Hid (Z.size = 80) := by rw [hZ]; exact size_set80 (by simp)
    clear hZ
    have HL : Hid _ := hl
    have HG : Hid _ := (goes_of hin b e).1
    have HLN : Hid _ := hlen
    have HU : Hid _ := hu
    obtain ⟨A, hA⟩ : ∃ A, A = boolsA bs := ⟨_, rfl⟩
    rw [← hA]
    have HS : Hid (A.size = 80) := by rw [hA]; exact size_set80 hl
    have HA : Hid _ := hA
    have hcell : A[p]? = some (.bool (bs.getD p false)) := by rw [hA]; exact boolsA_at bs p (by omega)
    have hia := indexAt80 w.heap.size p hp80
    have hp' : (p : Int) < 80 := by omega
    obtain ⟨R, hR⟩ : ∃ R, R = boolsA (dfs (tgI b e) is (f + 1) bs p) := ⟨_, rfl⟩
    rw [← hR]
    clear hA hl hlen
    cases hm : bs.getD p false
    case true =>
      rw [dfs_marked hm, ← HA.out] at hR
      subst hR
      rw [hm] at hcell
      have HO : Hid _ := boolsA_one bs
      rw [← HA.out] at HO
      have HB0 : Hid (Blk ((w.alloc (.cells R 86)).alloc (.cells Z 86)) w.heap.size R 86) := (Blk.new w R 86).alloc _
      have HB1 : Hid (Blk ((w.alloc (.cells R 86)).alloc (.cells Z 86)) (w.heap.size + 1) Z 86) := by
        have := Blk.new (w.alloc (.cells R 86)) Z 86
        rwa [show (w.alloc (.cells R 86)).heap.size = w.heap.size + 1 by simp] at this
      have HW : Hid (Below w.heap.size w ((w.alloc (.cells R 86)).alloc (.cells Z 86))) := ((Below.refl _ _).alloc (Nat.le_refl _) _).alloc (by simp) _
      clear hm hu
      go_enter Try.func98, Try.ntmps98
      go_wp2_with (first | ((with_reducible show wpList _ _ _ (({ dst := _, op := .load 86 _, type := _, pos := _, after := _, guard := _ } : Oper) :: _) _ _); refine wpList_load_row rfl 86 _ rfl _ rfl 86 (R) (0, 0) _ HB0.out under80 rfl (size80 HS.out) ?_) | ((with_reducible show wpList _ _ _ (({ dst := _, op := .store 86 _ _, type := _, pos := _, after := _, guard := _ } : Oper) :: _) _ _); refine wpList_store_row rfl 86 _ _ rfl _ (R) rfl rfl 86 (Z) HB1.out (size80 HS.out) (HZS.out.trans HS.out.symm) HO.out ?_))
      refine bodyPost_ret (v := .agg R) ?_ rfl ⟨rfl, below_setRow HW.out (by omega) _⟩
      exact results_cell_row rfl _ _ _ 86 R (0, 0) _ rfl (HB1.out.setRow R) under80 rfl (size80 HS.out)
    obtain ⟨b1, o1, i, rfl, hx, hc1⟩ := ha.at hp
    obtain ⟨c0, c1, c2, c3, c4, c5, c6, c7⟩ := eight hc1
    have HX : Hid _ := hx
    have hI := hin i (List.mem_of_getElem? hx)
    clear hc1
    rw [hm] at hcell
    have hum := unM_set (bs := bs) (p := p) (by rw [HL.out]; exact hp80) hm
    obtain ⟨A1, hA1⟩ : ∃ A1, A.setIfInBounds p (.bool true) = A1 := ⟨_, rfl⟩
    have HA1 : Hid (A1 = boolsA (bs.set p true)) := by rw [← hA1, HA.out]; exact boolsA_set bs p true
    have hl1 : (bs.set p true).length = 80 := by rw [List.length_set]; exact HL.out
    have HS1 : Hid (A1.size = 80) := by rw [HA1.out]; exact size_set80 hl1
    have HO1 : Hid _ := boolsA_one (bs.set p true)
    rw [← HA1.out] at HO1
    obtain ⟨o, k, c, s, l, r, x, y⟩ := i
    simp only at c0 c1 c2 c3 c4 c5 c6 c7 hI
    obtain ⟨⟨hx0, hxn⟩, ⟨hy0, hyn⟩⟩ := hI
    obtain ⟨xn, rfl⟩ : ∃ q : Nat, x = (q : Int) := ⟨x.toNat, by omega⟩
    obtain ⟨yn, rfl⟩ : ∃ q : Nat, y = (q : Int) := ⟨y.toNat, by omega⟩
    have hb1 : b1 < w.heap.size := block_lt_of_cell c0
    have hxn' : xn < n := by have := HLN.out; omega
    have hyn' : yn < n := by have := HLN.out; omega
    obtain ⟨W1, hW1⟩ : ∃ W1, W1 = ((w.alloc (.cells A1 86)).alloc (.cells Z 86)).alloc (.cells #[.int .i64 o, .int .i64 k, .int .i64 c, .string s, .int .i64 l, .int .i64 r, .int .i64 (xn : Int), .int .i64 (yn : Int)] 129) := ⟨_, rfl⟩
    have hsz1 : W1.heap.size = w.heap.size + 3 := by rw [hW1]; simp
    have HB0 : Hid (Blk W1 w.heap.size A1 86) := by rw [hW1]; exact ((Blk.new w A1 86).alloc _).alloc _
    have HB1 : Hid (Blk W1 (w.heap.size + 1) Z 86) := by
      have := (Blk.new (w.alloc (.cells A1 86)) Z 86).alloc (.cells #[.int .i64 o, .int .i64 k, .int .i64 c, .string s, .int .i64 l, .int .i64 r, .int .i64 (xn : Int), .int .i64 (yn : Int)] 129)
      rw [show (w.alloc (.cells A1 86)).heap.size = w.heap.size + 1 by simp] at this
      rw [hW1]
      exact this
    have HB2 : Hid (Blk W1 (w.heap.size + 2) #[.int .i64 o, .int .i64 k, .int .i64 c, .string s, .int .i64 l, .int .i64 r, .int .i64 (xn : Int), .int .i64 (yn : Int)] 129) := by
      have := Blk.new ((w.alloc (.cells A1 86)).alloc (.cells Z 86)) #[.int .i64 o, .int .i64 k, .int .i64 c, .string s, .int .i64 l, .int .i64 r, .int .i64 (xn : Int), .int .i64 (yn : Int)] 129
      rw [show ((w.alloc (.cells A1 86)).alloc (.cells Z 86)).heap.size = w.heap.size + 2 by simp] at this
      rw [hW1]
      exact this
    have HW : Hid (Below w.heap.size w W1) := by
      rw [hW1]
      exact (((Below.refl _ _).alloc (Nat.le_refl _) _).alloc (by simp) _).alloc (by simp; omega) _
    have HR1 : Hid (RdR inE 8 W1 (some ⟨b1, o1, none⟩) n is) := ha.below HW.out
    rw [hW1] at HB0 HB1 HB2 HW HR1
    clear hW1 hsz1 W1
    by_cases ho2 : o = 2
    case pos =>
      subst ho2
      have da := dfs_dfs HG.out f (bs.set p true) yn (by rw [HLN.out, hl1]; exact hn) (by rw [hl1]; omega) (by omega)
      have Ca := fun w' => ih (bs.set p true) yn w' (hl1) hyn' (by omega)
      have la : (dfs (tgI b e) is f (bs.set p true) yn).length = 80 := by rw [da.len]; exact hl1
      have ua := da.un
      obtain ⟨bs2, hbs2⟩ : ∃ q, q = dfs (tgI b e) is f (bs.set p true) yn := ⟨_, rfl⟩
      rw [← hbs2] at Ca la ua
      rw [← HA1.out] at Ca
      obtain ⟨A2, hA2⟩ : ∃ q, q = boolsA bs2 := ⟨_, rfl⟩
      rw [← hA2] at Ca
      have HA2 : Hid _ := hA2
      have HSA2 : Hid (A2.size = 80) := by rw [hA2]; exact size_set80 la
      have HOA2 : Hid _ := boolsA_one bs2
      rw [← hA2] at HOA2
      have HCa : Hid _ := Ca
      clear Ca da hA2
      have db := dfs_dfs HG.out f (bs2) xn (by rw [HLN.out, la]; exact hn) (by rw [la]; omega) (by omega)
      have Cb := fun w' => ih (bs2) xn w' (la) hxn' (by omega)
      have lb : (dfs (tgI b e) is f (bs2) xn).length = 80 := by rw [db.len]; exact la
      have ub := db.un
      obtain ⟨bs3, hbs3⟩ : ∃ q, q = dfs (tgI b e) is f (bs2) xn := ⟨_, rfl⟩
      rw [← hbs3] at Cb lb ub
      rw [← HA2.out] at Cb
      obtain ⟨A3, hA3⟩ : ∃ q, q = boolsA bs3 := ⟨_, rfl⟩
      rw [← hA3] at Cb
      have HA3 : Hid _ := hA3
      have HSA3 : Hid (A3.size = 80) := by rw [hA3]; exact size_set80 lb
      have HOA3 : Hid _ := boolsA_one bs3
      rw [← hA3] at HOA3
      have HCb : Hid _ := Cb
      clear Cb db hA3
      have hr := dfs_two (b := b) (e := e) (f := f) hm HX.out rfl
      simp only [Int.toNat_natCast] at hr
      rw [← hbs2, ← hbs3] at hr
      have HRR : Hid (A3 = R) := by rw [hR, hr]; exact HA3.out
      clear hR hr hm hu hum la lb ua ub hbs2 hbs3 hx hl1 ih
      go_enter Try.func98, Try.ntmps98
      go_wp2_with ((with_reducible show wpList _ _ _ (({ dst := _, op := .load 86 _, type := _, pos := _, after := _, guard := _ } : Oper) :: _) _ _); refine wpList_load_row rfl 86 _ rfl _ rfl 86 (A1) (0, 0) _ HB0.out under80 rfl (size80 HS1.out) ?_)
      refine (HCa.out _ HR1.out).mono ?_
      rintro r' W2 ⟨rfl, hb2⟩
      have K0a : Hid (Blk W2 w.heap.size A1 86) := HB0.out.below hb2
      have K1a : Hid (Blk (W2.setRow w.heap.size A2) (w.heap.size + 1) Z 86) := (HB1.out.below hb2).otherRow (by omega) _
      have K2a : Hid (Blk (W2.setRow w.heap.size A2) (w.heap.size + 2) #[.int .i64 2, .int .i64 k, .int .i64 c, .string s, .int .i64 l, .int .i64 r, .int .i64 (xn : Int), .int .i64 (yn : Int)] 129) := (HB2.out.below hb2).otherRow (by omega) _
      have N0a : Hid (Blk (W2.setRow w.heap.size A2) w.heap.size A2 86) := K0a.out.setRow _
      have KWa : Hid (Below w.heap.size w (W2.setRow w.heap.size A2)) := below_setRow (HW.out.trans (hb2.mono HW.out.size)) (Nat.le_refl _) _
      have qa0 := K2a.out.cell 0
      have qa1 := K2a.out.cell 1
      have qa2 := K2a.out.cell 2
      have qa3 := K2a.out.cell 3
      have qa4 := K2a.out.cell 4
      have qa5 := K2a.out.cell 5
      have qa6 := K2a.out.cell 6
      have qa7 := K2a.out.cell 7
      rw [show w.heap.size + 2 = w.heap.size + 1 + 1 from rfl] at qa0
      simp only [List.getElem?_toArray, List.getElem?_cons_zero, List.getElem?_cons_succ] at qa0
      rw [show w.heap.size + 2 = w.heap.size + 1 + 1 from rfl] at qa1
      simp only [List.getElem?_toArray, List.getElem?_cons_zero, List.getElem?_cons_succ] at qa1
      rw [show w.heap.size + 2 = w.heap.size + 1 + 1 from rfl] at qa2
      simp only [List.getElem?_toArray, List.getElem?_cons_zero, List.getElem?_cons_succ] at qa2
      rw [show w.heap.size + 2 = w.heap.size + 1 + 1 from rfl] at qa3
      simp only [List.getElem?_toArray, List.getElem?_cons_zero, List.getElem?_cons_succ] at qa3
      rw [show w.heap.size + 2 = w.heap.size + 1 + 1 from rfl] at qa4
      simp only [List.getElem?_toArray, List.getElem?_cons_zero, List.getElem?_cons_succ] at qa4
      rw [show w.heap.size + 2 = w.heap.size + 1 + 1 from rfl] at qa5
      simp only [List.getElem?_toArray, List.getElem?_cons_zero, List.getElem?_cons_succ] at qa5
      rw [show w.heap.size + 2 = w.heap.size + 1 + 1 from rfl] at qa6
      simp only [List.getElem?_toArray, List.getElem?_cons_zero, List.getElem?_cons_succ] at qa6
      rw [show w.heap.size + 2 = w.heap.size + 1 + 1 from rfl] at qa7
      simp only [List.getElem?_toArray, List.getElem?_cons_zero, List.getElem?_cons_succ] at qa7
      have HRa : Hid (RdR inE 8 (W2.setRow w.heap.size A2) (some ⟨b1, o1, none⟩) n is) := ha.below KWa.out
      go_wp2_with (first | ((with_reducible show wpList _ _ _ (({ dst := _, op := .store 86 _ _, type := _, pos := _, after := _, guard := _ } : Oper) :: _) _ _); refine wpList_store_row rfl 86 _ _ rfl _ (A2) rfl rfl 86 (A1) K0a.out (size80 HSA2.out) (HS1.out.trans HSA2.out.symm) HOA2.out ?_) | ((with_reducible show wpList _ _ _ (({ dst := _, op := .load 86 _, type := _, pos := _, after := _, guard := _ } : Oper) :: _) _ _); refine wpList_load_row rfl 86 _ rfl _ rfl 86 (A2) (0, 0) _ N0a.out under80 rfl (size80 HSA2.out) ?_))
      refine (HCb.out _ HRa.out).mono ?_
      rintro r'' W4 ⟨rfl, hb4⟩
      have HB0x := N0a
      have HB1x := K1a
      have HB2x := K2a
      clear qa0 qa1 qa2 qa3 qa4 qa5 qa6 qa7
      have K0b : Hid (Blk W4 w.heap.size A2 86) := HB0x.out.below hb4
      have K1b : Hid (Blk (W4.setRow w.heap.size A3) (w.heap.size + 1) Z 86) := (HB1x.out.below hb4).otherRow (by omega) _
      have K2b : Hid (Blk (W4.setRow w.heap.size A3) (w.heap.size + 2) #[.int .i64 2, .int .i64 k, .int .i64 c, .string s, .int .i64 l, .int .i64 r, .int .i64 (xn : Int), .int .i64 (yn : Int)] 129) := (HB2x.out.below hb4).otherRow (by omega) _
      have N0b : Hid (Blk (W4.setRow w.heap.size A3) w.heap.size A3 86) := K0b.out.setRow _
      have KWb : Hid (Below w.heap.size w (W4.setRow w.heap.size A3)) := below_setRow (KWa.out.trans (hb4.mono KWa.out.size)) (Nat.le_refl _) _
      have qb0 := K2b.out.cell 0
      have qb1 := K2b.out.cell 1
      have qb2 := K2b.out.cell 2
      have qb3 := K2b.out.cell 3
      have qb4 := K2b.out.cell 4
      have qb5 := K2b.out.cell 5
      have qb6 := K2b.out.cell 6
      have qb7 := K2b.out.cell 7
      rw [show w.heap.size + 2 = w.heap.size + 1 + 1 from rfl] at qb0
      simp only [List.getElem?_toArray, List.getElem?_cons_zero, List.getElem?_cons_succ] at qb0
      rw [show w.heap.size + 2 = w.heap.size + 1 + 1 from rfl] at qb1
      simp only [List.getElem?_toArray, List.getElem?_cons_zero, List.getElem?_cons_succ] at qb1
      rw [show w.heap.size + 2 = w.heap.size + 1 + 1 from rfl] at qb2
      simp only [List.getElem?_toArray, List.getElem?_cons_zero, List.getElem?_cons_succ] at qb2
      rw [show w.heap.size + 2 = w.heap.size + 1 + 1 from rfl] at qb3
      simp only [List.getElem?_toArray, List.getElem?_cons_zero, List.getElem?_cons_succ] at qb3
      rw [show w.heap.size + 2 = w.heap.size + 1 + 1 from rfl] at qb4
      simp only [List.getElem?_toArray, List.getElem?_cons_zero, List.getElem?_cons_succ] at qb4
      rw [show w.heap.size + 2 = w.heap.size + 1 + 1 from rfl] at qb5
      simp only [List.getElem?_toArray, List.getElem?_cons_zero, List.getElem?_cons_succ] at qb5
      rw [show w.heap.size + 2 = w.heap.size + 1 + 1 from rfl] at qb6
      simp only [List.getElem?_toArray, List.getElem?_cons_zero, List.getElem?_cons_succ] at qb6
      rw [show w.heap.size + 2 = w.heap.size + 1 + 1 from rfl] at qb7
      simp only [List.getElem?_toArray, List.getElem?_cons_zero, List.getElem?_cons_succ] at qb7
      go_wp2_with (first | ((with_reducible show wpList _ _ _ (({ dst := _, op := .store 86 _ _, type := _, pos := _, after := _, guard := _ } : Oper) :: _) _ _); refine wpList_store_row rfl 86 _ _ rfl _ (A3) rfl rfl 86 (A2) K0b.out (size80 HSA3.out) (HSA2.out.trans HSA3.out.symm) HOA3.out ?_) | ((with_reducible show wpList _ _ _ (({ dst := _, op := .load 86 _, type := _, pos := _, after := _, guard := _ } : Oper) :: _) _ _); refine wpList_load_row rfl 86 _ rfl _ rfl 86 (A3) (0, 0) _ N0b.out under80 rfl (size80 HSA3.out) ?_) | ((with_reducible show wpList _ _ _ (({ dst := _, op := .store 86 _ _, type := _, pos := _, after := _, guard := _ } : Oper) :: _) _ _); refine wpList_store_row rfl 86 _ _ rfl _ (A3) rfl rfl 86 (Z) K1b.out (size80 HSA3.out) (HZS.out.trans HSA3.out.symm) HOA3.out ?_))
      refine bodyPost_ret (v := .agg A3) ?_ rfl ⟨by rw [HRR.out], below_setRow KWb.out (by omega) _⟩
      exact results_cell_row rfl _ _ _ 86 A3 (0, 0) _ rfl (K1b.out.setRow A3) under80 rfl (size80 HSA3.out)
    by_cases ho3 : o = 3
    case pos =>
      subst ho3
      have da := dfs_dfs HG.out f (bs.set p true) xn (by rw [HLN.out, hl1]; exact hn) (by rw [hl1]; omega) (by omega)
      have Ca := fun w' => ih (bs.set p true) xn w' (hl1) hxn' (by omega)
      have la : (dfs (tgI b e) is f (bs.set p true) xn).length = 80 := by rw [da.len]; exact hl1
      have ua := da.un
      obtain ⟨bs2, hbs2⟩ : ∃ q, q = dfs (tgI b e) is f (bs.set p true) xn := ⟨_, rfl⟩
      rw [← hbs2] at Ca la ua
      rw [← HA1.out] at Ca
      obtain ⟨A2, hA2⟩ : ∃ q, q = boolsA bs2 := ⟨_, rfl⟩
      rw [← hA2] at Ca
      have HA2 : Hid _ := hA2
      have HSA2 : Hid (A2.size = 80) := by rw [hA2]; exact size_set80 la
      have HOA2 : Hid _ := boolsA_one bs2
      rw [← hA2] at HOA2
      have HCa : Hid _ := Ca
      clear Ca da hA2
      have hr := dfs_one (b := b) (e := e) (f := f) hm HX.out (by simp) (by simp [goesX])
      simp only [Int.toNat_natCast] at hr
      rw [← hbs2] at hr
      have HRR : Hid (A2 = R) := by rw [hR, hr]; exact HA2.out
      clear hR hr hm hu hum la ua hbs2 hx hl1 ih
      go_enter Try.func98, Try.ntmps98
      go_wp2_with ((with_reducible show wpList _ _ _ (({ dst := _, op := .load 86 _, type := _, pos := _, after := _, guard := _ } : Oper) :: _) _ _); refine wpList_load_row rfl 86 _ rfl _ rfl 86 (A1) (0, 0) _ HB0.out under80 rfl (size80 HS1.out) ?_)
      refine (HCa.out _ HR1.out).mono ?_
      rintro r' W2 ⟨rfl, hb2⟩
      have K0a : Hid (Blk W2 w.heap.size A1 86) := HB0.out.below hb2
      have K1a : Hid (Blk (W2.setRow w.heap.size A2) (w.heap.size + 1) Z 86) := (HB1.out.below hb2).otherRow (by omega) _
      have K2a : Hid (Blk (W2.setRow w.heap.size A2) (w.heap.size + 2) #[.int .i64 3, .int .i64 k, .int .i64 c, .string s, .int .i64 l, .int .i64 r, .int .i64 (xn : Int), .int .i64 (yn : Int)] 129) := (HB2.out.below hb2).otherRow (by omega) _
      have N0a : Hid (Blk (W2.setRow w.heap.size A2) w.heap.size A2 86) := K0a.out.setRow _
      have KWa : Hid (Below w.heap.size w (W2.setRow w.heap.size A2)) := below_setRow (HW.out.trans (hb2.mono HW.out.size)) (Nat.le_refl _) _
      have qa0 := K2a.out.cell 0
      have qa1 := K2a.out.cell 1
      have qa2 := K2a.out.cell 2
      have qa3 := K2a.out.cell 3
      have qa4 := K2a.out.cell 4
      have qa5 := K2a.out.cell 5
      have qa6 := K2a.out.cell 6
      have qa7 := K2a.out.cell 7
      rw [show w.heap.size + 2 = w.heap.size + 1 + 1 from rfl] at qa0
      simp only [List.getElem?_toArray, List.getElem?_cons_zero, List.getElem?_cons_succ] at qa0
      rw [show w.heap.size + 2 = w.heap.size + 1 + 1 from rfl] at qa1
      simp only [List.getElem?_toArray, List.getElem?_cons_zero, List.getElem?_cons_succ] at qa1
      rw [show w.heap.size + 2 = w.heap.size + 1 + 1 from rfl] at qa2
      simp only [List.getElem?_toArray, List.getElem?_cons_zero, List.getElem?_cons_succ] at qa2
      rw [show w.heap.size + 2 = w.heap.size + 1 + 1 from rfl] at qa3
      simp only [List.getElem?_toArray, List.getElem?_cons_zero, List.getElem?_cons_succ] at qa3
      rw [show w.heap.size + 2 = w.heap.size + 1 + 1 from rfl] at qa4
      simp only [List.getElem?_toArray, List.getElem?_cons_zero, List.getElem?_cons_succ] at qa4
      rw [show w.heap.size + 2 = w.heap.size + 1 + 1 from rfl] at qa5
      simp only [List.getElem?_toArray, List.getElem?_cons_zero, List.getElem?_cons_succ] at qa5
      rw [show w.heap.size + 2 = w.heap.size + 1 + 1 from rfl] at qa6
      simp only [List.getElem?_toArray, List.getElem?_cons_zero, List.getElem?_cons_succ] at qa6
      rw [show w.heap.size + 2 = w.heap.size + 1 + 1 from rfl] at qa7
      simp only [List.getElem?_toArray, List.getElem?_cons_zero, List.getElem?_cons_succ] at qa7
      go_wp2_with (first | ((with_reducible show wpList _ _ _ (({ dst := _, op := .store 86 _ _, type := _, pos := _, after := _, guard := _ } : Oper) :: _) _ _); refine wpList_store_row rfl 86 _ _ rfl _ (A2) rfl rfl 86 (A1) K0a.out (size80 HSA2.out) (HS1.out.trans HSA2.out.symm) HOA2.out ?_) | ((with_reducible show wpList _ _ _ (({ dst := _, op := .load 86 _, type := _, pos := _, after := _, guard := _ } : Oper) :: _) _ _); refine wpList_load_row rfl 86 _ rfl _ rfl 86 (A2) (0, 0) _ N0a.out under80 rfl (size80 HSA2.out) ?_) | ((with_reducible show wpList _ _ _ (({ dst := _, op := .store 86 _ _, type := _, pos := _, after := _, guard := _ } : Oper) :: _) _ _); refine wpList_store_row rfl 86 _ _ rfl _ (A2) rfl rfl 86 (Z) K1a.out (size80 HSA2.out) (HZS.out.trans HSA2.out.symm) HOA2.out ?_))
      refine bodyPost_ret (v := .agg A2) ?_ rfl ⟨by rw [HRR.out], below_setRow KWa.out (by omega) _⟩
      exact results_cell_row rfl _ _ _ 86 A2 (0, 0) _ rfl (K1a.out.setRow A2) under80 rfl (size80 HSA2.out)
    by_cases ho4 : o = 4
    case pos =>
      subst ho4
      cases b
      case true =>
        have da := dfs_dfs HG.out f (bs.set p true) xn (by rw [HLN.out, hl1]; exact hn) (by rw [hl1]; omega) (by omega)
        have Ca := fun w' => ih (bs.set p true) xn w' (hl1) hxn' (by omega)
        have la : (dfs (tgI true e) is f (bs.set p true) xn).length = 80 := by rw [da.len]; exact hl1
        have ua := da.un
        obtain ⟨bs2, hbs2⟩ : ∃ q, q = dfs (tgI true e) is f (bs.set p true) xn := ⟨_, rfl⟩
        rw [← hbs2] at Ca la ua
        rw [← HA1.out] at Ca
        obtain ⟨A2, hA2⟩ : ∃ q, q = boolsA bs2 := ⟨_, rfl⟩
        rw [← hA2] at Ca
        have HA2 : Hid _ := hA2
        have HSA2 : Hid (A2.size = 80) := by rw [hA2]; exact size_set80 la
        have HOA2 : Hid _ := boolsA_one bs2
        rw [← hA2] at HOA2
        have HCa : Hid _ := Ca
        clear Ca da hA2
        have hr := dfs_one (b := true) (e := e) (f := f) hm HX.out (by simp) (by simp [goesX])
        simp only [Int.toNat_natCast] at hr
        rw [← hbs2] at hr
        have HRR : Hid (A2 = R) := by rw [hR, hr]; exact HA2.out
        clear hR hr hm hu hum la ua hbs2 hx hl1 ih
        go_enter Try.func98, Try.ntmps98
        go_wp2_with ((with_reducible show wpList _ _ _ (({ dst := _, op := .load 86 _, type := _, pos := _, after := _, guard := _ } : Oper) :: _) _ _); refine wpList_load_row rfl 86 _ rfl _ rfl 86 (A1) (0, 0) _ HB0.out under80 rfl (size80 HS1.out) ?_)
        refine (HCa.out _ HR1.out).mono ?_
        rintro r' W2 ⟨rfl, hb2⟩
        have K0a : Hid (Blk W2 w.heap.size A1 86) := HB0.out.below hb2
        have K1a : Hid (Blk (W2.setRow w.heap.size A2) (w.heap.size + 1) Z 86) := (HB1.out.below hb2).otherRow (by omega) _
        have K2a : Hid (Blk (W2.setRow w.heap.size A2) (w.heap.size + 2) #[.int .i64 4, .int .i64 k, .int .i64 c, .string s, .int .i64 l, .int .i64 r, .int .i64 (xn : Int), .int .i64 (yn : Int)] 129) := (HB2.out.below hb2).otherRow (by omega) _
        have N0a : Hid (Blk (W2.setRow w.heap.size A2) w.heap.size A2 86) := K0a.out.setRow _
        have KWa : Hid (Below w.heap.size w (W2.setRow w.heap.size A2)) := below_setRow (HW.out.trans (hb2.mono HW.out.size)) (Nat.le_refl _) _
        have qa0 := K2a.out.cell 0
        have qa1 := K2a.out.cell 1
        have qa2 := K2a.out.cell 2
        have qa3 := K2a.out.cell 3
        have qa4 := K2a.out.cell 4
        have qa5 := K2a.out.cell 5
        have qa6 := K2a.out.cell 6
        have qa7 := K2a.out.cell 7
        rw [show w.heap.size + 2 = w.heap.size + 1 + 1 from rfl] at qa0
        simp only [List.getElem?_toArray, List.getElem?_cons_zero, List.getElem?_cons_succ] at qa0
        rw [show w.heap.size + 2 = w.heap.size + 1 + 1 from rfl] at qa1
        simp only [List.getElem?_toArray, List.getElem?_cons_zero, List.getElem?_cons_succ] at qa1
        rw [show w.heap.size + 2 = w.heap.size + 1 + 1 from rfl] at qa2
        simp only [List.getElem?_toArray, List.getElem?_cons_zero, List.getElem?_cons_succ] at qa2
        rw [show w.heap.size + 2 = w.heap.size + 1 + 1 from rfl] at qa3
        simp only [List.getElem?_toArray, List.getElem?_cons_zero, List.getElem?_cons_succ] at qa3
        rw [show w.heap.size + 2 = w.heap.size + 1 + 1 from rfl] at qa4
        simp only [List.getElem?_toArray, List.getElem?_cons_zero, List.getElem?_cons_succ] at qa4
        rw [show w.heap.size + 2 = w.heap.size + 1 + 1 from rfl] at qa5
        simp only [List.getElem?_toArray, List.getElem?_cons_zero, List.getElem?_cons_succ] at qa5
        rw [show w.heap.size + 2 = w.heap.size + 1 + 1 from rfl] at qa6
        simp only [List.getElem?_toArray, List.getElem?_cons_zero, List.getElem?_cons_succ] at qa6
        rw [show w.heap.size + 2 = w.heap.size + 1 + 1 from rfl] at qa7
        simp only [List.getElem?_toArray, List.getElem?_cons_zero, List.getElem?_cons_succ] at qa7
        go_wp2_with (first | ((with_reducible show wpList _ _ _ (({ dst := _, op := .store 86 _ _, type := _, pos := _, after := _, guard := _ } : Oper) :: _) _ _); refine wpList_store_row rfl 86 _ _ rfl _ (A2) rfl rfl 86 (A1) K0a.out (size80 HSA2.out) (HS1.out.trans HSA2.out.symm) HOA2.out ?_) | ((with_reducible show wpList _ _ _ (({ dst := _, op := .load 86 _, type := _, pos := _, after := _, guard := _ } : Oper) :: _) _ _); refine wpList_load_row rfl 86 _ rfl _ rfl 86 (A2) (0, 0) _ N0a.out under80 rfl (size80 HSA2.out) ?_) | ((with_reducible show wpList _ _ _ (({ dst := _, op := .store 86 _ _, type := _, pos := _, after := _, guard := _ } : Oper) :: _) _ _); refine wpList_store_row rfl 86 _ _ rfl _ (A2) rfl rfl 86 (Z) K1a.out (size80 HSA2.out) (HZS.out.trans HSA2.out.symm) HOA2.out ?_))
        refine bodyPost_ret (v := .agg A2) ?_ rfl ⟨by rw [HRR.out], below_setRow KWa.out (by omega) _⟩
        exact results_cell_row rfl _ _ _ 86 A2 (0, 0) _ rfl (K1a.out.setRow A2) under80 rfl (size80 HSA2.out)
      case false =>
        have hr := dfs_end (b := false) (e := e) (f := f) hm HX.out (by simp) (by simp [goesX])
        have HRR : Hid (A1 = R) := by rw [hR, hr]; exact HA1.out
        clear hR hr hm hu hum hx hl1 ih
        go_enter Try.func98, Try.ntmps98
        go_wp2_with (first | ((with_reducible show wpList _ _ _ (({ dst := _, op := .load 86 _, type := _, pos := _, after := _, guard := _ } : Oper) :: _) _ _); refine wpList_load_row rfl 86 _ rfl _ rfl 86 (A1) (0, 0) _ HB0.out under80 rfl (size80 HS1.out) ?_) | ((with_reducible show wpList _ _ _ (({ dst := _, op := .store 86 _ _, type := _, pos := _, after := _, guard := _ } : Oper) :: _) _ _); refine wpList_store_row rfl 86 _ _ rfl _ (A1) rfl rfl 86 (Z) HB1.out (size80 HS1.out) (HZS.out.trans HS1.out.symm) HO1.out ?_))
        refine bodyPost_ret (v := .agg A1) ?_ rfl ⟨by rw [HRR.out], below_setRow HW.out (by omega) _⟩
        exact results_cell_row rfl _ _ _ 86 A1 (0, 0) _ rfl (HB1.out.setRow A1) under80 rfl (size80 HS1.out)
    by_cases ho5 : o = 5
    case pos =>
      subst ho5
      cases e
      case true =>
        have da := dfs_dfs HG.out f (bs.set p true) xn (by rw [HLN.out, hl1]; exact hn) (by rw [hl1]; omega) (by omega)
        have Ca := fun w' => ih (bs.set p true) xn w' (hl1) hxn' (by omega)
        have la : (dfs (tgI b true) is f (bs.set p true) xn).length = 80 := by rw [da.len]; exact hl1
        have ua := da.un
        obtain ⟨bs2, hbs2⟩ : ∃ q, q = dfs (tgI b true) is f (bs.set p true) xn := ⟨_, rfl⟩
        rw [← hbs2] at Ca la ua
        rw [← HA1.out] at Ca
        obtain ⟨A2, hA2⟩ : ∃ q, q = boolsA bs2 := ⟨_, rfl⟩
        rw [← hA2] at Ca
        have HA2 : Hid _ := hA2
        have HSA2 : Hid (A2.size = 80) := by rw [hA2]; exact size_set80 la
        have HOA2 : Hid _ := boolsA_one bs2
        rw [← hA2] at HOA2
        have HCa : Hid _ := Ca
        clear Ca da hA2
        have hr := dfs_one (b := b) (e := true) (f := f) hm HX.out (by simp) (by simp [goesX])
        simp only [Int.toNat_natCast] at hr
        rw [← hbs2] at hr
        have HRR : Hid (A2 = R) := by rw [hR, hr]; exact HA2.out
        clear hR hr hm hu hum la ua hbs2 hx hl1 ih
        go_enter Try.func98, Try.ntmps98
        go_wp2_with ((with_reducible show wpList _ _ _ (({ dst := _, op := .load 86 _, type := _, pos := _, after := _, guard := _ } : Oper) :: _) _ _); refine wpList_load_row rfl 86 _ rfl _ rfl 86 (A1) (0, 0) _ HB0.out under80 rfl (size80 HS1.out) ?_)
        refine (HCa.out _ HR1.out).mono ?_
        rintro r' W2 ⟨rfl, hb2⟩
        have K0a : Hid (Blk W2 w.heap.size A1 86) := HB0.out.below hb2
        have K1a : Hid (Blk (W2.setRow w.heap.size A2) (w.heap.size + 1) Z 86) := (HB1.out.below hb2).otherRow (by omega) _
        have K2a : Hid (Blk (W2.setRow w.heap.size A2) (w.heap.size + 2) #[.int .i64 5, .int .i64 k, .int .i64 c, .string s, .int .i64 l, .int .i64 r, .int .i64 (xn : Int), .int .i64 (yn : Int)] 129) := (HB2.out.below hb2).otherRow (by omega) _
        have N0a : Hid (Blk (W2.setRow w.heap.size A2) w.heap.size A2 86) := K0a.out.setRow _
        have KWa : Hid (Below w.heap.size w (W2.setRow w.heap.size A2)) := below_setRow (HW.out.trans (hb2.mono HW.out.size)) (Nat.le_refl _) _
        have qa0 := K2a.out.cell 0
        have qa1 := K2a.out.cell 1
        have qa2 := K2a.out.cell 2
        have qa3 := K2a.out.cell 3
        have qa4 := K2a.out.cell 4
        have qa5 := K2a.out.cell 5
        have qa6 := K2a.out.cell 6
        have qa7 := K2a.out.cell 7
        rw [show w.heap.size + 2 = w.heap.size + 1 + 1 from rfl] at qa0
        simp only [List.getElem?_toArray, List.getElem?_cons_zero, List.getElem?_cons_succ] at qa0
        rw [show w.heap.size + 2 = w.heap.size + 1 + 1 from rfl] at qa1
        simp only [List.getElem?_toArray, List.getElem?_cons_zero, List.getElem?_cons_succ] at qa1
        rw [show w.heap.size + 2 = w.heap.size + 1 + 1 from rfl] at qa2
        simp only [List.getElem?_toArray, List.getElem?_cons_zero, List.getElem?_cons_succ] at qa2
        rw [show w.heap.size + 2 = w.heap.size + 1 + 1 from rfl] at qa3
        simp only [List.getElem?_toArray, List.getElem?_cons_zero, List.getElem?_cons_succ] at qa3
        rw [show w.heap.size + 2 = w.heap.size + 1 + 1 from rfl] at qa4
        simp only [List.getElem?_toArray, List.getElem?_cons_zero, List.getElem?_cons_succ] at qa4
        rw [show w.heap.size + 2 = w.heap.size + 1 + 1 from rfl] at qa5
        simp only [List.getElem?_toArray, List.getElem?_cons_zero, List.getElem?_cons_succ] at qa5
        rw [show w.heap.size + 2 = w.heap.size + 1 + 1 from rfl] at qa6
        simp only [List.getElem?_toArray, List.getElem?_cons_zero, List.getElem?_cons_succ] at qa6
        rw [show w.heap.size + 2 = w.heap.size + 1 + 1 from rfl] at qa7
        simp only [List.getElem?_toArray, List.getElem?_cons_zero, List.getElem?_cons_succ] at qa7
        go_wp2_with (first | ((with_reducible show wpList _ _ _ (({ dst := _, op := .store 86 _ _, type := _, pos := _, after := _, guard := _ } : Oper) :: _) _ _); refine wpList_store_row rfl 86 _ _ rfl _ (A2) rfl rfl 86 (A1) K0a.out (size80 HSA2.out) (HS1.out.trans HSA2.out.symm) HOA2.out ?_) | ((with_reducible show wpList _ _ _ (({ dst := _, op := .load 86 _, type := _, pos := _, after := _, guard := _ } : Oper) :: _) _ _); refine wpList_load_row rfl 86 _ rfl _ rfl 86 (A2) (0, 0) _ N0a.out under80 rfl (size80 HSA2.out) ?_) | ((with_reducible show wpList _ _ _ (({ dst := _, op := .store 86 _ _, type := _, pos := _, after := _, guard := _ } : Oper) :: _) _ _); refine wpList_store_row rfl 86 _ _ rfl _ (A2) rfl rfl 86 (Z) K1a.out (size80 HSA2.out) (HZS.out.trans HSA2.out.symm) HOA2.out ?_))
        refine bodyPost_ret (v := .agg A2) ?_ rfl ⟨by rw [HRR.out], below_setRow KWa.out (by omega) _⟩
        exact results_cell_row rfl _ _ _ 86 A2 (0, 0) _ rfl (K1a.out.setRow A2) under80 rfl (size80 HSA2.out)
      case false =>
        have hr := dfs_end (b := b) (e := false) (f := f) hm HX.out (by simp) (by simp [goesX])
        have HRR : Hid (A1 = R) := by rw [hR, hr]; exact HA1.out
        clear hR hr hm hu hum hx hl1 ih
        go_enter Try.func98, Try.ntmps98
        go_wp2_with (first | ((with_reducible show wpList _ _ _ (({ dst := _, op := .load 86 _, type := _, pos := _, after := _, guard := _ } : Oper) :: _) _ _); refine wpList_load_row rfl 86 _ rfl _ rfl 86 (A1) (0, 0) _ HB0.out under80 rfl (size80 HS1.out) ?_) | ((with_reducible show wpList _ _ _ (({ dst := _, op := .store 86 _ _, type := _, pos := _, after := _, guard := _ } : Oper) :: _) _ _); refine wpList_store_row rfl 86 _ _ rfl _ (A1) rfl rfl 86 (Z) HB1.out (size80 HS1.out) (HZS.out.trans HS1.out.symm) HO1.out ?_))
        refine bodyPost_ret (v := .agg A1) ?_ rfl ⟨by rw [HRR.out], below_setRow HW.out (by omega) _⟩
        exact results_cell_row rfl _ _ _ 86 A1 (0, 0) _ rfl (HB1.out.setRow A1) under80 rfl (size80 HS1.out)
    have ho2' : (o == 2) = false := by simpa using ho2
    have ho3' : (o == 3) = false := by simpa using ho3
    have ho4' : (o == 4) = false := by simpa using ho4
    have ho5' : (o == 5) = false := by simpa using ho5
    have hr := dfs_end (b := b) (e := e) (f := f) hm HX.out ho2 (by simp [goesX, ho2, ho3, ho4, ho5])
    have HRR : Hid (A1 = R) := by rw [hR, hr]; exact HA1.out
    clear hR hr hm hu hum hx hl1 ih
    go_enter Try.func98, Try.ntmps98
    go_wp2_with (first | ((with_reducible show wpList _ _ _ (({ dst := _, op := .load 86 _, type := _, pos := _, after := _, guard := _ } : Oper) :: _) _ _); refine wpList_load_row rfl 86 _ rfl _ rfl 86 (A1) (0, 0) _ HB0.out under80 rfl (size80 HS1.out) ?_) | ((with_reducible show wpList _ _ _ (({ dst := _, op := .store 86 _ _, type := _, pos := _, after := _, guard := _ } : Oper) :: _) _ _); refine wpList_store_row rfl 86 _ _ rfl _ (A1) rfl rfl 86 (Z) HB1.out (size80 HS1.out) (HZS.out.trans HS1.out.symm) HO1.out ?_))
    refine bodyPost_ret (v := .agg A1) ?_ rfl ⟨by rw [HRR.out], below_setRow HW.out (by omega) _⟩
    exact results_cell_row rfl _ _ _ 86 A1 (0, 0) _ rfl (HB1.out.setRow A1) under80 rfl (size80 HS1.out)
end Go.Proofs.Ytoggkcgldckekaa
