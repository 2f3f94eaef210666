/-
  Chapter 9's specification: the lines that have a pattern, and FindLine.
-/
import Derived.Test.YtaeolofailompaaFnd2
import Derived.Test.YtaeolofailompaaHas2
import Derived.Test.YtaeolofailompaaLines1
import Derived.Test.YtaeolofailompaaLines2
import Derived.Test.YtaeolofailompaaFiles1
import Derived.Test.YtaeolofailompaaAppend
namespace Go.Proofs.Ytaeolofailompaa
open Go.RowKit
set_option linter.unusedVariables false
set_option linter.unusedSimpArgs false

theorem info64f : (Try.prog.info? 2).map (fun i => (i.zero, i.size, i.bytes)) = some (some (.int .i64 0), 1, 8) := by kernel_rfl
theorem rd_one9 (w : World) (K : Int) (t : TypeId) : Rd .i64 (w.alloc (.cells #[.int .i64 K] t)) (some ⟨w.heap.size, 0, none⟩) 1 [K] :=
  ⟨rfl, .inr ⟨_, _, rfl, fun j hj => by obtain rfl : j = 0 := by omega
                                        simp [go_sem]⟩⟩
theorem cutOf_bytes9 {xs : List Int} (h : Bytes xs) (l : L2) : Bytes (cutOf xs l) := fun x hx => h x (List.mem_of_mem_drop (List.mem_of_mem_take hx))

set_option maxRecDepth 10000 in
set_option maxHeartbeats 3200000 in
theorem l9Hits_any (b : Nat) (pa : Option Addr) (pn pc : Nat) (is : List In) (a : Option Addr) (n ca : Nat) (xs : List Int) (w : World) (hp : RdR inE 8 w pa pn is) (hin : Inside is) (hs : inSum is ≤ 1048576) (hp1 : 1 ≤ pn) (hp2 : pn ≤ 80)
    (hc : w.cell? ⟨b, 0, none⟩ = some (.slice a n ca)) (ha : Rd .u8 w a n xs) (hB : Bytes xs) (h1 : n ≤ 400) (hca : n ≤ ca) (hcm : ca ≤ maxLen) :
    Calls Try.prog 151 #[.slice pa pn pc, .pointer (some ⟨b, 0, none⟩)] w fun e w' => ∃ v, e = .returned v ∧ RowI .i64 2 w' w.heap.size w'.heap.size v (hits is xs).length (hits is xs) ∧ Below w.heap.size w w' := by
  obtain ⟨i0, hi, hz0, hz1, hz2⟩ := info_parts info64f
  have hlen := ha.1
  have hll := lns_len xs
  have hbs := World.block_lt_of_cell? _ _ hc
  have HM : Hid _ := hcm
  have HWa : Hid (Rd .u8 w a n xs ∧ w.cell? ⟨b, 0, none⟩ = some (.slice a n ca) ∧ RdR inE 8 w pa pn is) := ⟨ha, hc, hp⟩
  have P := fun w' hc h => l2Lines_any b a n ca xs w' hc h (by omega)
  have HP : Hid _ := P
  have hE : Own .i64 2 (w.alloc (.cells #[] 2)) w.heap.size (.slice (some ⟨w.heap.size, 0, none⟩) 0 0) 0 [] :=
    own_lit (k := .i64) w #[] 0 w.heap.size [] rfl rfl (Nat.le_refl _) (by simp [maxLen])
  clear P hcm hc hp
  have bp : ∀ o, Below w.heap.size w (w.alloc o) := fun o => (Below.refl _ _).alloc (Nat.le_refl _) o
  go_enter Try.func151, Try.ntmps151
  go_wp2_with fail
  refine Calls.mono (HP.out _ (cell_later (bp _) HWa.out.2.1) (ha.below (bp _))) ?_
  rintro e w1 ⟨vl, rfl, hL, hb⟩
  have hE1 : Own .i64 2 w1 w.heap.size (.slice (some ⟨w.heap.size, 0, none⟩) 0 0) 0 [] := hE.below hb
  have hb1 : Below w.heap.size w w1 := (bp _).trans (hb.mono (by simp))
  have hL1 : OwnR lineE 2 202 w1 w.heap.size vl (lns xs).length (lns xs) := hL.1.up (by simp)
  obtain ⟨al, cl, rfl, -⟩ := hL1.rd lineE_len
  clear hL hb hE bp
  go_wp2
  go_loopw [5, 7] (fun v i wr => ∃ k : Nat, k ≤ (lns xs).length ∧ i = .int .i64 k ∧ Own .i64 2 wr w.heap.size v (hitsN is xs k).length (hitsN is xs k) ∧ OwnR lineE 2 202 wr w.heap.size (.slice al (lns xs).length cl) (lns xs).length (lns xs) ∧ Below w.heap.size w wr) (fun _ i _ => (lns xs).length - (intOf i).toNat)
  case atStart => exact ⟨0, Nat.zero_le _, rfl, by simpa [hitsN] using hE1, hL1, hb1⟩
  case round =>
    obtain ⟨k, hk, rfl, hO, hLr, hbr⟩ := hrel
    by_cases hlt : k < (lns xs).length
    · have hlk : (lns xs)[k]? = some (lns xs)[k] := List.getElem?_eq_getElem hlt
      have hgd : (lns xs).getD k (0, 0) = (lns xs)[k] := by rw [List.getD_eq_getElem?_getD, hlk]; rfl
      have hin2 := lns_in xs _ (List.mem_of_getElem? hlk)
      have hst : hitsN is xs (k + 1) = hitsN is xs k ++ (if hasV is (cutOf xs (lns xs)[k]) then [(k : Int)] else []) := by rw [hitsN, hgd]
      obtain ⟨⟨f', z'⟩, hl⟩ : ∃ l, l = (lns xs)[k] := ⟨_, rfl⟩
      rw [← hl] at hlk hin2 hst
      simp only at hin2
      obtain ⟨f, rfl⟩ : ∃ f : Nat, f' = (f : Int) := ⟨f'.toNat, by omega⟩
      obtain ⟨z, rfl⟩ : ∃ z : Nat, z' = (z : Int) := ⟨z'.toNat, by omega⟩
      clear hl hgd
      have hfz : f + z ≤ n := by omega
      have hcut : cutOf xs ((f : Int), (z : Int)) = (xs.drop f).take z := by simp [cutOf]
      obtain ⟨B, o, x, hax, hx, hcx⟩ := (hLr.read lineE_len).at hlt
      rw [hlk] at hx
      obtain rfl := Option.some.inj hx
      subst hax
      have l0 := hcx 0 _ rfl
      have l1 := hcx 1 _ rfl
      simp only [Nat.add_zero] at l0
      clear hcx hx hin2
      have hsz : Bytes ((xs.drop f).take z) := by rw [← hcut]; exact cutOf_bytes9 hB _
      have hlt' : (k : Int) < ((lns xs).length : Int) := by omega
      have QL := fun w' hc h => l2Line_any b a n ca f z xs w' hc h (by omega) hca HM.out hfz
      have HQL : Hid _ := QL
      have QC := fun A CA w' h h2 => l9Has_any pa pn pc is A z CA ((xs.drop f).take z) hin hs hp1 hp2 (by omega) hsz w' h h2
      rw [← hcut] at QC
      have HLR := hid hLr
      have HO := hid hO
      have hkl := hitsN_len (is := is) (xs := xs) k
      clear hLr hO hlk hsz
      have hwB : w.heap.size ≤ wr.heap.size := hbr.size
      generalize hLn : (lns xs).length = L at *
      generalize hHL : (hitsN is xs k).length = HL at *
      by_cases hhit : hasV is (cutOf xs ((f : Int), (z : Int))) = true
      · rw [hhit] at QC
        rw [if_pos hhit] at hst
        have HQC : Hid _ := QC
        have HST := hid hst
        clear QC hst hcut hhit
        go_wp2_with fail
        refine Calls.mono (HQL.out _ (cell_later hbr HWa.out.2.1) (ha.below hbr)) ?_
        rintro e w2 ⟨v2, rfl, r2, hc⟩
        obtain ⟨a2, k2, rfl, -⟩ := r2.shape
        have hO2 := HO.out.below hc
        have hL2 := HLR.out.below hc
        have hb2 := hbr.trans (hc.mono hbr.size)
        replace r2 := r2.read
        clear hc
        go_wp2_with fail
        refine Calls.mono (HQC.out _ _ _ (HWa.out.2.2.below hb2) r2) ?_
        rintro e w3 ⟨rfl, hc⟩
        have hO3 := hO2.below hc
        have hL3 := hL2.below hc
        have hb3 := hb2.trans (hc.mono hb2.size)
        clear hc r2 hO2 hL2 hb2
        have ba : Below w3.heap.size w3 (w3.alloc (.cells #[.int .i64 (k : Int)] 2)) := (Below.refl _ _).alloc (Nat.le_refl _) _
        have hO4 := hO3.below ba
        have hL4 := hL3.below ba
        have hb4 := hb3.trans (ba.mono hb3.size)
        go_wp2_with (at_builtin; refine wpList_append_rd rfl _ _ 60 rfl .i64 w.heap.size 2 i0 8 Try.underlying60 hi hz0 hz1 hz2 _ HL _ rfl hO4 (some ⟨w3.heap.size, 0, none⟩) 1 1 [(k : Int)] rfl (rd_one9 w3 k 2) (by unfold maxLen; omega) (by omega) hb4.size ?_)
        intro v5 w5 hO5 hg5
        have hL5 : OwnR lineE 2 202 w5 w.heap.size (.slice (some ⟨B, o, none⟩) L cl) L (lns xs) := hL4.kept hg5 (rows_apart hL4.2 hO4 (by decide))
        have hb5 := hb4.grown hg5 hb4.size (fun j hj => (hO4.lt j hj).1)
        rw [← HST.out] at hO5
        have hHS : (hitsN is xs (k + 1)).length = HL + 1 := by rw [HST.out, List.length_append, hHL]; rfl
        rw [← hHS] at hO5
        have HL5 := hid hL5
        have HO5 := hid hO5
        clear hO3 hL3 hb3 ba hO4 hL4 hb4 hg5 hL5 hO5 hHS
        go_wp2
        go_roundw
        case rel => exact ⟨k + 1, by omega, by go_num, HO5.out, HL5.out, hb5⟩
        case measure => simp [intOf]; omega
      · have hhf : hasV is (cutOf xs ((f : Int), (z : Int))) = false := by simpa using hhit
        rw [hhf] at QC
        rw [if_neg hhit, List.append_nil] at hst
        have HQC : Hid _ := QC
        have HST := hid hst
        clear QC hst hcut hhit hhf
        go_wp2_with fail
        refine Calls.mono (HQL.out _ (cell_later hbr HWa.out.2.1) (ha.below hbr)) ?_
        rintro e w2 ⟨v2, rfl, r2, hc⟩
        obtain ⟨a2, k2, rfl, -⟩ := r2.shape
        have hO2 := HO.out.below hc
        have hL2 := HLR.out.below hc
        have hb2 := hbr.trans (hc.mono hbr.size)
        replace r2 := r2.read
        clear hc
        go_wp2_with fail
        refine Calls.mono (HQC.out _ _ _ (HWa.out.2.2.below hb2) r2) ?_
        rintro e w3 ⟨rfl, hc⟩
        have hO3 := hO2.below hc
        have hL3 := hL2.below hc
        have hb3 := hb2.trans (hc.mono hb2.size)
        clear hc r2 hO2 hL2 hb2
        rw [← hHL, ← HST.out] at hO3
        have HL5 := hid hL3
        have HO5 := hid hO3
        clear hL3 hO3
        go_wp2
        go_roundw
        case rel => exact ⟨k + 1, by omega, by go_num, HO5.out, HL5.out, hb3⟩
        case measure => simp [intOf]; omega
    · obtain rfl : k = (lns xs).length := by omega
      have hlt' : ¬ ((lns xs).length : Int) < ((lns xs).length : Int) := by omega
      go_wp2
      go_ret
      exact ⟨_, rfl, RowI.of hO, hbr⟩

theorem l2FaultB (b : Nat) (a : Option Addr) (n ca : Nat) (w : World) (hc : w.cell? ⟨b, 0, none⟩ = some (.slice a n ca)) (hn : n ≤ 1073741824) : Calls Try.prog 149 #[.pointer (some ⟨b, 0, none⟩)] w fun e w' => e = .returned (.int .i64 (fFault n)) ∧ Below w.heap.size w w' :=
  (l2Fault_any b a n ca w hc hn).mono (fun e w'' h => ⟨h.1, h.2 ▸ Below.refl _ _⟩)
theorem l1InB (x y z : Int) (q : Bool) (hq : decide (y ≤ x ∧ x ≤ z) = q) (w : World) : Calls Try.prog 85 #[.int .i64 x, .int .i64 y, .int .i64 z] w fun e w' => e = .returned (.bool q) ∧ Below w.heap.size w w' :=
  (l1In_any x y z w).mono (fun e w'' h => ⟨hq ▸ h.1, h.2 ▸ Below.refl _ _⟩)
theorem hits_le (is : List In) (xs : List Int) : (hits is xs).length ≤ (lns xs).length := hitsN_len _

set_option maxRecDepth 10000 in
set_option maxHeartbeats 3200000 in
theorem specFindLine_any (pa : Option Addr) (pn pc : Nat) (is : List In) (a : Option Addr) (n ca : Nat) (xs : List Int) (F N : Int) (B : Bool) (w : World) (hpr : RdR inE 8 w pa pn is) (hs : inSum is ≤ 1048576) (hpn : pn ≤ 1048576)
    (ha : Rd .u8 w a n xs) (hB : Bytes xs) (h1 : n ≤ 1073741824) (hca : n ≤ ca) (hcm : ca ≤ maxLen) :
    Calls Try.prog 60 #[.slice pa pn pc, .agg #[.slice a n ca], .int .i64 F, .int .i64 N, .bool B] w fun e w' => e = .returned (.agg #[.int .i64 (fdC is xs F N), .int .i64 (fdV is xs F N B)]) ∧ Below w.heap.size w w' := by
  have hlen := ha.1
  have PF := fun w' h' => l7Fault_any pa pn pc is w' h' hs hpn
  by_cases hP : progFault is = 0
  case neg =>
    have e1 : fdC is xs F N = progFault is := by unfold fdC; rw [if_pos hP]
    have e2 : fdV is xs F N B = 0 := by unfold fdV; rw [if_neg (by rw [e1]; exact hP)]
    rw [e1, e2]
    generalize progFault is = P at *
    have HPF : Hid _ := PF
    clear PF e1 e2
    go_enter Try.func60, Try.ntmps60
    have hb : Below w.heap.size w w := Below.refl _ _
    go_wp2_with fail
    have bp : ∀ o0 o1, Below w.heap.size w ((w.alloc o0).alloc o1) := fun o0 o1 => ((Below.refl _ _).alloc (Nat.le_refl _) o0).alloc (by simp) o1
    have hbt : ∀ o0 o1, Below w.heap.size w ((w.alloc o0).alloc o1) := fun o0 o1 => hb.trans ((bp o0 o1).mono hb.size)
    refine Calls.mono (HPF.out _ (hpr.below (hbt _ _))) ?_
    rintro e w1 ⟨rfl, hc⟩
    have s1 : w.heap.size + 2 ≤ w1.heap.size := by have := hc.size; simp at this; omega
    have bq : Below w.heap.size w w1 := (bp _ _).trans (hc.mono (bp _ _).size)
    have cf0 : w1.cell? ⟨w.heap.size, 0, none⟩ = some (.slice a n ca) := cell_later hc (by simp [go_sem])
    have zf : w.heap.size < w1.heap.size := by omega
    have cR0 : w1.cell? ⟨w.heap.size + 1, 0, none⟩ = some (.int .i64 0) := cell_later hc (by simp [go_sem])
    have fR0 : w1.frozen? ⟨w.heap.size + 1, 0, none⟩ = false := (hc.frozen (p := ⟨w.heap.size + 1, 0, none⟩) (by first | (simp; done) | (simp; omega))).trans (by simp [go_sem])
    have cR1 : w1.cell? ⟨w.heap.size + 1, 1, none⟩ = some (.int .i64 0) := cell_later hc (by simp [go_sem])
    have fR1 : w1.frozen? ⟨w.heap.size + 1, 1, none⟩ = false := (hc.frozen (p := ⟨w.heap.size + 1, 1, none⟩) (by first | (simp; done) | (simp; omega))).trans (by simp [go_sem])
    have zR : w.heap.size + 1 < w1.heap.size := by omega
    replace hb := hb.trans (bq.mono hb.size)
    clear hc bq bp hbt
    go_wp2
    exact bodyPost_ret (v := .agg #[.int .i64 P, .int .i64 0]) (by simp [results, Try.results60, go_sem, cR0, cR1]) rfl ⟨rfl, ((hb.setCell (by first | omega | (simp; omega) | simp) _).setCell (by first | omega | (simp; omega) | simp) _)⟩
  have hpo := progFault_ok hP
  have hin := inside_of hP
  have hpl := hpr.1
  rw [hP] at PF
  have HPF : Hid _ := PF
  have LF := fun w' h' => l2FaultB w.heap.size a n ca w' h' h1
  by_cases hn : 400 < n
  · have e1 : fdC is xs F N = 2 := by unfold fdC; rw [if_neg (by omega), if_pos (by omega)]
    have e2 : fdV is xs F N B = 0 := by unfold fdV; rw [if_neg (by omega)]
    rw [e1, e2]
    rw [show fFault n = 2 by unfold fFault; rw [if_pos hn]] at LF
    have HLF : Hid _ := LF
    clear PF LF e1 e2 hpo hin hP
    go_enter Try.func60, Try.ntmps60
    have hb : Below w.heap.size w w := Below.refl _ _
    go_wp2_with fail
    have bp : ∀ o0 o1, Below w.heap.size w ((w.alloc o0).alloc o1) := fun o0 o1 => ((Below.refl _ _).alloc (Nat.le_refl _) o0).alloc (by simp) o1
    have hbt : ∀ o0 o1, Below w.heap.size w ((w.alloc o0).alloc o1) := fun o0 o1 => hb.trans ((bp o0 o1).mono hb.size)
    refine Calls.mono (HPF.out _ (hpr.below (hbt _ _))) ?_
    rintro e w1 ⟨rfl, hc⟩
    have s1 : w.heap.size + 2 ≤ w1.heap.size := by have := hc.size; simp at this; omega
    have bq : Below w.heap.size w w1 := (bp _ _).trans (hc.mono (bp _ _).size)
    have cf0 : w1.cell? ⟨w.heap.size, 0, none⟩ = some (.slice a n ca) := cell_later hc (by simp [go_sem])
    have zf : w.heap.size < w1.heap.size := by omega
    have cR0 : w1.cell? ⟨w.heap.size + 1, 0, none⟩ = some (.int .i64 0) := cell_later hc (by simp [go_sem])
    have fR0 : w1.frozen? ⟨w.heap.size + 1, 0, none⟩ = false := (hc.frozen (p := ⟨w.heap.size + 1, 0, none⟩) (by first | (simp; done) | (simp; omega))).trans (by simp [go_sem])
    have cR1 : w1.cell? ⟨w.heap.size + 1, 1, none⟩ = some (.int .i64 0) := cell_later hc (by simp [go_sem])
    have fR1 : w1.frozen? ⟨w.heap.size + 1, 1, none⟩ = false := (hc.frozen (p := ⟨w.heap.size + 1, 1, none⟩) (by first | (simp; done) | (simp; omega))).trans (by simp [go_sem])
    have zR : w.heap.size + 1 < w1.heap.size := by omega
    replace hb := hb.trans (bq.mono hb.size)
    clear hc bq bp hbt
    go_wp2_with fail
    refine Calls.mono (HLF.out _ cf0) ?_
    rintro e w2 ⟨rfl, hc⟩
    have s2 : w1.heap.size ≤ w2.heap.size := hc.size
    have bq := hc
    replace cf0 := cell_later bq cf0
    replace zf := Nat.lt_of_lt_of_le zf bq.size
    replace cR0 := cell_later bq cR0
    replace fR0 := (bq.frozen (p := ⟨w.heap.size + 1, 0, none⟩) zR).trans fR0
    replace cR1 := cell_later bq cR1
    replace fR1 := (bq.frozen (p := ⟨w.heap.size + 1, 1, none⟩) zR).trans fR1
    replace zR := Nat.lt_of_lt_of_le zR bq.size
    replace hb := hb.trans (bq.mono hb.size)
    clear hc bq
    go_wp2
    exact bodyPost_ret (v := .agg #[.int .i64 2, .int .i64 0]) (by simp [results, Try.results60, go_sem, cR0, cR1]) rfl ⟨rfl, ((hb.setCell (by first | omega | (simp; omega) | simp) _).setCell (by first | omega | (simp; omega) | simp) _)⟩
  rw [show fFault n = 0 by unfold fFault; rw [if_neg hn]] at LF
  have HLF : Hid _ := LF
  have LN := fun w' hc h => l2Lines_any w.heap.size a n ca xs w' hc h h1
  have hll := lns_len xs
  have HH := fun w' h0 hc h => l9Hits_any w.heap.size pa pn pc is a n ca xs w' h0 hin hs (by omega) (by omega) hc h hB (by omega) hca hcm
  have hhl := hits_le is xs
  have FI := fun A CA w' h => l9Find_any A (hits is xs).length CA (hits is xs) F N B w' h (by omega)
  have hge : ∀ h ∈ hits is xs, 0 ≤ h := fun h hm => (hitsN_lt _ h hm).1
  generalize hLn : (lns xs).length = L at *
  have HLN : Hid _ := LN
  clear PF LF LN hpo hcm hca
  by_cases hF : -1 ≤ F ∧ F ≤ (L : Int)
  case neg =>
    have e1 : fdC is xs F N = 3 := by unfold fdC; rw [if_neg (by omega), if_neg (by omega), if_pos (by omega)]
    have e2 : fdV is xs F N B = 0 := by unfold fdV; rw [if_neg (by omega)]
    rw [e1, e2]
    have HI1 := hid (l1InB F (-1) (L : Int) false (by simpa using hF))
    clear e1 e2 HH FI hge hF hin
    go_enter Try.func60, Try.ntmps60
    have hb : Below w.heap.size w w := Below.refl _ _
    go_wp2_with fail
    have bp : ∀ o0 o1, Below w.heap.size w ((w.alloc o0).alloc o1) := fun o0 o1 => ((Below.refl _ _).alloc (Nat.le_refl _) o0).alloc (by simp) o1
    have hbt : ∀ o0 o1, Below w.heap.size w ((w.alloc o0).alloc o1) := fun o0 o1 => hb.trans ((bp o0 o1).mono hb.size)
    refine Calls.mono (HPF.out _ (hpr.below (hbt _ _))) ?_
    rintro e w1 ⟨rfl, hc⟩
    have s1 : w.heap.size + 2 ≤ w1.heap.size := by have := hc.size; simp at this; omega
    have bq : Below w.heap.size w w1 := (bp _ _).trans (hc.mono (bp _ _).size)
    have cf0 : w1.cell? ⟨w.heap.size, 0, none⟩ = some (.slice a n ca) := cell_later hc (by simp [go_sem])
    have zf : w.heap.size < w1.heap.size := by omega
    have cR0 : w1.cell? ⟨w.heap.size + 1, 0, none⟩ = some (.int .i64 0) := cell_later hc (by simp [go_sem])
    have fR0 : w1.frozen? ⟨w.heap.size + 1, 0, none⟩ = false := (hc.frozen (p := ⟨w.heap.size + 1, 0, none⟩) (by first | (simp; done) | (simp; omega))).trans (by simp [go_sem])
    have cR1 : w1.cell? ⟨w.heap.size + 1, 1, none⟩ = some (.int .i64 0) := cell_later hc (by simp [go_sem])
    have fR1 : w1.frozen? ⟨w.heap.size + 1, 1, none⟩ = false := (hc.frozen (p := ⟨w.heap.size + 1, 1, none⟩) (by first | (simp; done) | (simp; omega))).trans (by simp [go_sem])
    have zR : w.heap.size + 1 < w1.heap.size := by omega
    replace hb := hb.trans (bq.mono hb.size)
    clear hc bq bp hbt
    go_wp2_with fail
    refine Calls.mono (HLF.out _ cf0) ?_
    rintro e w2 ⟨rfl, hc⟩
    have s2 : w1.heap.size ≤ w2.heap.size := hc.size
    have bq := hc
    replace cf0 := cell_later bq cf0
    replace zf := Nat.lt_of_lt_of_le zf bq.size
    replace cR0 := cell_later bq cR0
    replace fR0 := (bq.frozen (p := ⟨w.heap.size + 1, 0, none⟩) zR).trans fR0
    replace cR1 := cell_later bq cR1
    replace fR1 := (bq.frozen (p := ⟨w.heap.size + 1, 1, none⟩) zR).trans fR1
    replace zR := Nat.lt_of_lt_of_le zR bq.size
    replace hb := hb.trans (bq.mono hb.size)
    clear hc bq
    go_wp2_with fail
    refine Calls.mono (HLN.out _ cf0 (ha.below hb)) ?_
    rintro e w3 ⟨vl, rfl, rl, hc⟩
    obtain ⟨al, cl, rfl, -⟩ := rl.1.rd lineE_len
    clear rl
    have s3 : w2.heap.size ≤ w3.heap.size := hc.size
    have bq := hc
    replace cf0 := cell_later bq cf0
    replace zf := Nat.lt_of_lt_of_le zf bq.size
    replace cR0 := cell_later bq cR0
    replace fR0 := (bq.frozen (p := ⟨w.heap.size + 1, 0, none⟩) zR).trans fR0
    replace cR1 := cell_later bq cR1
    replace fR1 := (bq.frozen (p := ⟨w.heap.size + 1, 1, none⟩) zR).trans fR1
    replace zR := Nat.lt_of_lt_of_le zR bq.size
    replace hb := hb.trans (bq.mono hb.size)
    clear hc bq
    go_wp2_with fail
    refine Calls.mono (HI1.out _) ?_
    rintro e w4 ⟨rfl, hc⟩
    have s4 : w3.heap.size ≤ w4.heap.size := hc.size
    have bq := hc
    replace cf0 := cell_later bq cf0
    replace zf := Nat.lt_of_lt_of_le zf bq.size
    replace cR0 := cell_later bq cR0
    replace fR0 := (bq.frozen (p := ⟨w.heap.size + 1, 0, none⟩) zR).trans fR0
    replace cR1 := cell_later bq cR1
    replace fR1 := (bq.frozen (p := ⟨w.heap.size + 1, 1, none⟩) zR).trans fR1
    replace zR := Nat.lt_of_lt_of_le zR bq.size
    replace hb := hb.trans (bq.mono hb.size)
    clear hc bq
    go_wp2
    exact bodyPost_ret (v := .agg #[.int .i64 3, .int .i64 0]) (by simp [results, Try.results60, go_sem, cR0, cR1]) rfl ⟨rfl, ((hb.setCell (by first | omega | (simp; omega) | simp) _).setCell (by first | omega | (simp; omega) | simp) _)⟩
  have HI1 := hid (l1InB F (-1) (L : Int) true (by simpa using hF))
  by_cases hN : 1 ≤ N ∧ N ≤ 999
  case neg =>
    have e1 : fdC is xs F N = 3 := by unfold fdC; rw [if_neg (by omega), if_neg (by omega), if_pos (by omega)]
    have e2 : fdV is xs F N B = 0 := by unfold fdV; rw [if_neg (by omega)]
    rw [e1, e2]
    have HI2 := hid (l1InB N 1 999 false (by simpa using hN))
    clear e1 e2 HH FI hge hF hN hin
    go_enter Try.func60, Try.ntmps60
    have hb : Below w.heap.size w w := Below.refl _ _
    go_wp2_with fail
    have bp : ∀ o0 o1, Below w.heap.size w ((w.alloc o0).alloc o1) := fun o0 o1 => ((Below.refl _ _).alloc (Nat.le_refl _) o0).alloc (by simp) o1
    have hbt : ∀ o0 o1, Below w.heap.size w ((w.alloc o0).alloc o1) := fun o0 o1 => hb.trans ((bp o0 o1).mono hb.size)
    refine Calls.mono (HPF.out _ (hpr.below (hbt _ _))) ?_
    rintro e w1 ⟨rfl, hc⟩
    have s1 : w.heap.size + 2 ≤ w1.heap.size := by have := hc.size; simp at this; omega
    have bq : Below w.heap.size w w1 := (bp _ _).trans (hc.mono (bp _ _).size)
    have cf0 : w1.cell? ⟨w.heap.size, 0, none⟩ = some (.slice a n ca) := cell_later hc (by simp [go_sem])
    have zf : w.heap.size < w1.heap.size := by omega
    have cR0 : w1.cell? ⟨w.heap.size + 1, 0, none⟩ = some (.int .i64 0) := cell_later hc (by simp [go_sem])
    have fR0 : w1.frozen? ⟨w.heap.size + 1, 0, none⟩ = false := (hc.frozen (p := ⟨w.heap.size + 1, 0, none⟩) (by first | (simp; done) | (simp; omega))).trans (by simp [go_sem])
    have cR1 : w1.cell? ⟨w.heap.size + 1, 1, none⟩ = some (.int .i64 0) := cell_later hc (by simp [go_sem])
    have fR1 : w1.frozen? ⟨w.heap.size + 1, 1, none⟩ = false := (hc.frozen (p := ⟨w.heap.size + 1, 1, none⟩) (by first | (simp; done) | (simp; omega))).trans (by simp [go_sem])
    have zR : w.heap.size + 1 < w1.heap.size := by omega
    replace hb := hb.trans (bq.mono hb.size)
    clear hc bq bp hbt
    go_wp2_with fail
    refine Calls.mono (HLF.out _ cf0) ?_
    rintro e w2 ⟨rfl, hc⟩
    have s2 : w1.heap.size ≤ w2.heap.size := hc.size
    have bq := hc
    replace cf0 := cell_later bq cf0
    replace zf := Nat.lt_of_lt_of_le zf bq.size
    replace cR0 := cell_later bq cR0
    replace fR0 := (bq.frozen (p := ⟨w.heap.size + 1, 0, none⟩) zR).trans fR0
    replace cR1 := cell_later bq cR1
    replace fR1 := (bq.frozen (p := ⟨w.heap.size + 1, 1, none⟩) zR).trans fR1
    replace zR := Nat.lt_of_lt_of_le zR bq.size
    replace hb := hb.trans (bq.mono hb.size)
    clear hc bq
    go_wp2_with fail
    refine Calls.mono (HLN.out _ cf0 (ha.below hb)) ?_
    rintro e w3 ⟨vl, rfl, rl, hc⟩
    obtain ⟨al, cl, rfl, -⟩ := rl.1.rd lineE_len
    clear rl
    have s3 : w2.heap.size ≤ w3.heap.size := hc.size
    have bq := hc
    replace cf0 := cell_later bq cf0
    replace zf := Nat.lt_of_lt_of_le zf bq.size
    replace cR0 := cell_later bq cR0
    replace fR0 := (bq.frozen (p := ⟨w.heap.size + 1, 0, none⟩) zR).trans fR0
    replace cR1 := cell_later bq cR1
    replace fR1 := (bq.frozen (p := ⟨w.heap.size + 1, 1, none⟩) zR).trans fR1
    replace zR := Nat.lt_of_lt_of_le zR bq.size
    replace hb := hb.trans (bq.mono hb.size)
    clear hc bq
    go_wp2_with fail
    refine Calls.mono (HI1.out _) ?_
    rintro e w4 ⟨rfl, hc⟩
    have s4 : w3.heap.size ≤ w4.heap.size := hc.size
    have bq := hc
    replace cf0 := cell_later bq cf0
    replace zf := Nat.lt_of_lt_of_le zf bq.size
    replace cR0 := cell_later bq cR0
    replace fR0 := (bq.frozen (p := ⟨w.heap.size + 1, 0, none⟩) zR).trans fR0
    replace cR1 := cell_later bq cR1
    replace fR1 := (bq.frozen (p := ⟨w.heap.size + 1, 1, none⟩) zR).trans fR1
    replace zR := Nat.lt_of_lt_of_le zR bq.size
    replace hb := hb.trans (bq.mono hb.size)
    clear hc bq
    go_wp2_with fail
    refine Calls.mono (HI2.out _) ?_
    rintro e w5 ⟨rfl, hc⟩
    have s5 : w4.heap.size ≤ w5.heap.size := hc.size
    have bq := hc
    replace cf0 := cell_later bq cf0
    replace zf := Nat.lt_of_lt_of_le zf bq.size
    replace cR0 := cell_later bq cR0
    replace fR0 := (bq.frozen (p := ⟨w.heap.size + 1, 0, none⟩) zR).trans fR0
    replace cR1 := cell_later bq cR1
    replace fR1 := (bq.frozen (p := ⟨w.heap.size + 1, 1, none⟩) zR).trans fR1
    replace zR := Nat.lt_of_lt_of_le zR bq.size
    replace hb := hb.trans (bq.mono hb.size)
    clear hc bq
    go_wp2
    exact bodyPost_ret (v := .agg #[.int .i64 3, .int .i64 0]) (by simp [results, Try.results60, go_sem, cR0, cR1]) rfl ⟨rfl, ((hb.setCell (by first | omega | (simp; omega) | simp) _).setCell (by first | omega | (simp; omega) | simp) _)⟩
  have HI2 := hid (l1InB N 1 999 true (by simpa using hN))
  have FI2 := fun A CA w' h => (FI A CA w' h hN.1 hN.2).mono (fun e w'' h => (⟨h.1, h.2 ▸ Below.refl _ _⟩ : _ ∧ Below w'.heap.size w' w''))
  clear FI
  by_cases hE : hits is xs = []
  · have e1 : fdC is xs F N = 4 := by unfold fdC; rw [if_neg (by omega), if_neg (by omega), if_neg (by omega), if_pos hE]
    have e2 : fdV is xs F N B = 0 := by unfold fdV; rw [if_neg (by omega)]
    rw [e1, e2]
    rw [if_pos hE] at FI2
    generalize hits is xs = hs2 at *
    generalize hm : hs2.length = m at *
    have HFI : Hid _ := FI2
    have HHI : Hid _ := HH
    clear e1 e2 HH FI2 hge hF hN hE hin
    go_enter Try.func60, Try.ntmps60
    have hb : Below w.heap.size w w := Below.refl _ _
    go_wp2_with fail
    have bp : ∀ o0 o1, Below w.heap.size w ((w.alloc o0).alloc o1) := fun o0 o1 => ((Below.refl _ _).alloc (Nat.le_refl _) o0).alloc (by simp) o1
    have hbt : ∀ o0 o1, Below w.heap.size w ((w.alloc o0).alloc o1) := fun o0 o1 => hb.trans ((bp o0 o1).mono hb.size)
    refine Calls.mono (HPF.out _ (hpr.below (hbt _ _))) ?_
    rintro e w1 ⟨rfl, hc⟩
    have s1 : w.heap.size + 2 ≤ w1.heap.size := by have := hc.size; simp at this; omega
    have bq : Below w.heap.size w w1 := (bp _ _).trans (hc.mono (bp _ _).size)
    have cf0 : w1.cell? ⟨w.heap.size, 0, none⟩ = some (.slice a n ca) := cell_later hc (by simp [go_sem])
    have zf : w.heap.size < w1.heap.size := by omega
    have cR0 : w1.cell? ⟨w.heap.size + 1, 0, none⟩ = some (.int .i64 0) := cell_later hc (by simp [go_sem])
    have fR0 : w1.frozen? ⟨w.heap.size + 1, 0, none⟩ = false := (hc.frozen (p := ⟨w.heap.size + 1, 0, none⟩) (by first | (simp; done) | (simp; omega))).trans (by simp [go_sem])
    have cR1 : w1.cell? ⟨w.heap.size + 1, 1, none⟩ = some (.int .i64 0) := cell_later hc (by simp [go_sem])
    have fR1 : w1.frozen? ⟨w.heap.size + 1, 1, none⟩ = false := (hc.frozen (p := ⟨w.heap.size + 1, 1, none⟩) (by first | (simp; done) | (simp; omega))).trans (by simp [go_sem])
    have zR : w.heap.size + 1 < w1.heap.size := by omega
    replace hb := hb.trans (bq.mono hb.size)
    clear hc bq bp hbt
    go_wp2_with fail
    refine Calls.mono (HLF.out _ cf0) ?_
    rintro e w2 ⟨rfl, hc⟩
    have s2 : w1.heap.size ≤ w2.heap.size := hc.size
    have bq := hc
    replace cf0 := cell_later bq cf0
    replace zf := Nat.lt_of_lt_of_le zf bq.size
    replace cR0 := cell_later bq cR0
    replace fR0 := (bq.frozen (p := ⟨w.heap.size + 1, 0, none⟩) zR).trans fR0
    replace cR1 := cell_later bq cR1
    replace fR1 := (bq.frozen (p := ⟨w.heap.size + 1, 1, none⟩) zR).trans fR1
    replace zR := Nat.lt_of_lt_of_le zR bq.size
    replace hb := hb.trans (bq.mono hb.size)
    clear hc bq
    go_wp2_with fail
    refine Calls.mono (HLN.out _ cf0 (ha.below hb)) ?_
    rintro e w3 ⟨vl, rfl, rl, hc⟩
    obtain ⟨al, cl, rfl, -⟩ := rl.1.rd lineE_len
    clear rl
    have s3 : w2.heap.size ≤ w3.heap.size := hc.size
    have bq := hc
    replace cf0 := cell_later bq cf0
    replace zf := Nat.lt_of_lt_of_le zf bq.size
    replace cR0 := cell_later bq cR0
    replace fR0 := (bq.frozen (p := ⟨w.heap.size + 1, 0, none⟩) zR).trans fR0
    replace cR1 := cell_later bq cR1
    replace fR1 := (bq.frozen (p := ⟨w.heap.size + 1, 1, none⟩) zR).trans fR1
    replace zR := Nat.lt_of_lt_of_le zR bq.size
    replace hb := hb.trans (bq.mono hb.size)
    clear hc bq
    go_wp2_with fail
    refine Calls.mono (HI1.out _) ?_
    rintro e w4 ⟨rfl, hc⟩
    have s4 : w3.heap.size ≤ w4.heap.size := hc.size
    have bq := hc
    replace cf0 := cell_later bq cf0
    replace zf := Nat.lt_of_lt_of_le zf bq.size
    replace cR0 := cell_later bq cR0
    replace fR0 := (bq.frozen (p := ⟨w.heap.size + 1, 0, none⟩) zR).trans fR0
    replace cR1 := cell_later bq cR1
    replace fR1 := (bq.frozen (p := ⟨w.heap.size + 1, 1, none⟩) zR).trans fR1
    replace zR := Nat.lt_of_lt_of_le zR bq.size
    replace hb := hb.trans (bq.mono hb.size)
    clear hc bq
    go_wp2_with fail
    refine Calls.mono (HI2.out _) ?_
    rintro e w5 ⟨rfl, hc⟩
    have s5 : w4.heap.size ≤ w5.heap.size := hc.size
    have bq := hc
    replace cf0 := cell_later bq cf0
    replace zf := Nat.lt_of_lt_of_le zf bq.size
    replace cR0 := cell_later bq cR0
    replace fR0 := (bq.frozen (p := ⟨w.heap.size + 1, 0, none⟩) zR).trans fR0
    replace cR1 := cell_later bq cR1
    replace fR1 := (bq.frozen (p := ⟨w.heap.size + 1, 1, none⟩) zR).trans fR1
    replace zR := Nat.lt_of_lt_of_le zR bq.size
    replace hb := hb.trans (bq.mono hb.size)
    clear hc bq
    go_wp2_with fail
    refine Calls.mono (HHI.out _ (hpr.below hb) cf0 (ha.below hb)) ?_
    rintro e w6 ⟨vh, rfl, rh, hc⟩
    obtain ⟨ah, kh, rfl, -⟩ := rh.shape
    replace rh := rh.read
    have s6 : w5.heap.size ≤ w6.heap.size := hc.size
    have bq := hc
    replace cf0 := cell_later bq cf0
    replace zf := Nat.lt_of_lt_of_le zf bq.size
    replace cR0 := cell_later bq cR0
    replace fR0 := (bq.frozen (p := ⟨w.heap.size + 1, 0, none⟩) zR).trans fR0
    replace cR1 := cell_later bq cR1
    replace fR1 := (bq.frozen (p := ⟨w.heap.size + 1, 1, none⟩) zR).trans fR1
    replace zR := Nat.lt_of_lt_of_le zR bq.size
    replace hb := hb.trans (bq.mono hb.size)
    clear hc bq
    go_wp2_with fail
    refine Calls.mono (HFI.out ah kh _ rh) ?_
    rintro e w7 ⟨rfl, hc⟩
    have s7 : w6.heap.size ≤ w7.heap.size := hc.size
    have bq := hc
    replace cf0 := cell_later bq cf0
    replace zf := Nat.lt_of_lt_of_le zf bq.size
    replace cR0 := cell_later bq cR0
    replace fR0 := (bq.frozen (p := ⟨w.heap.size + 1, 0, none⟩) zR).trans fR0
    replace cR1 := cell_later bq cR1
    replace fR1 := (bq.frozen (p := ⟨w.heap.size + 1, 1, none⟩) zR).trans fR1
    replace zR := Nat.lt_of_lt_of_le zR bq.size
    replace hb := hb.trans (bq.mono hb.size)
    clear hc bq
    go_wp2
    exact bodyPost_ret (v := .agg #[.int .i64 4, .int .i64 0]) (by simp [results, Try.results60, go_sem, cR0, cR1]) rfl ⟨rfl, ((hb.setCell (by first | omega | (simp; omega) | simp) _).setCell (by first | omega | (simp; omega) | simp) _)⟩
  · have e1 : fdC is xs F N = 0 := by unfold fdC; rw [if_neg (by omega), if_neg (by omega), if_neg (by omega), if_neg hE]
    have e2 : fdV is xs F N B = (hits is xs).getD (fndAt (hits is xs) F N B).toNat 0 := by unfold fdV; rw [if_pos e1]
    rw [e1, e2]
    rw [if_neg hE] at FI2
    have hV : 0 ≤ (hits is xs).getD (fndAt (hits is xs) F N B).toNat 0 := by
      rw [List.getD_eq_getElem?_getD]
      cases hq : (hits is xs)[(fndAt (hits is xs) F N B).toNat]? with
      | none => simp
      | some h => exact hge h (List.mem_of_getElem? hq)
    generalize (hits is xs).getD (fndAt (hits is xs) F N B).toNat 0 = V at *
    have hV2 : ¬ V < 0 := by omega
    generalize hits is xs = hs2 at *
    generalize hm : hs2.length = m at *
    have HFI : Hid _ := FI2
    have HHI : Hid _ := HH
    clear e1 e2 HH FI2 hge hF hN hE hin
    go_enter Try.func60, Try.ntmps60
    have hb : Below w.heap.size w w := Below.refl _ _
    go_wp2_with fail
    have bp : ∀ o0 o1, Below w.heap.size w ((w.alloc o0).alloc o1) := fun o0 o1 => ((Below.refl _ _).alloc (Nat.le_refl _) o0).alloc (by simp) o1
    have hbt : ∀ o0 o1, Below w.heap.size w ((w.alloc o0).alloc o1) := fun o0 o1 => hb.trans ((bp o0 o1).mono hb.size)
    refine Calls.mono (HPF.out _ (hpr.below (hbt _ _))) ?_
    rintro e w1 ⟨rfl, hc⟩
    have s1 : w.heap.size + 2 ≤ w1.heap.size := by have := hc.size; simp at this; omega
    have bq : Below w.heap.size w w1 := (bp _ _).trans (hc.mono (bp _ _).size)
    have cf0 : w1.cell? ⟨w.heap.size, 0, none⟩ = some (.slice a n ca) := cell_later hc (by simp [go_sem])
    have zf : w.heap.size < w1.heap.size := by omega
    have cR0 : w1.cell? ⟨w.heap.size + 1, 0, none⟩ = some (.int .i64 0) := cell_later hc (by simp [go_sem])
    have fR0 : w1.frozen? ⟨w.heap.size + 1, 0, none⟩ = false := (hc.frozen (p := ⟨w.heap.size + 1, 0, none⟩) (by first | (simp; done) | (simp; omega))).trans (by simp [go_sem])
    have cR1 : w1.cell? ⟨w.heap.size + 1, 1, none⟩ = some (.int .i64 0) := cell_later hc (by simp [go_sem])
    have fR1 : w1.frozen? ⟨w.heap.size + 1, 1, none⟩ = false := (hc.frozen (p := ⟨w.heap.size + 1, 1, none⟩) (by first | (simp; done) | (simp; omega))).trans (by simp [go_sem])
    have zR : w.heap.size + 1 < w1.heap.size := by omega
    replace hb := hb.trans (bq.mono hb.size)
    clear hc bq bp hbt
    go_wp2_with fail
    refine Calls.mono (HLF.out _ cf0) ?_
    rintro e w2 ⟨rfl, hc⟩
    have s2 : w1.heap.size ≤ w2.heap.size := hc.size
    have bq := hc
    replace cf0 := cell_later bq cf0
    replace zf := Nat.lt_of_lt_of_le zf bq.size
    replace cR0 := cell_later bq cR0
    replace fR0 := (bq.frozen (p := ⟨w.heap.size + 1, 0, none⟩) zR).trans fR0
    replace cR1 := cell_later bq cR1
    replace fR1 := (bq.frozen (p := ⟨w.heap.size + 1, 1, none⟩) zR).trans fR1
    replace zR := Nat.lt_of_lt_of_le zR bq.size
    replace hb := hb.trans (bq.mono hb.size)
    clear hc bq
    go_wp2_with fail
    refine Calls.mono (HLN.out _ cf0 (ha.below hb)) ?_
    rintro e w3 ⟨vl, rfl, rl, hc⟩
    obtain ⟨al, cl, rfl, -⟩ := rl.1.rd lineE_len
    clear rl
    have s3 : w2.heap.size ≤ w3.heap.size := hc.size
    have bq := hc
    replace cf0 := cell_later bq cf0
    replace zf := Nat.lt_of_lt_of_le zf bq.size
    replace cR0 := cell_later bq cR0
    replace fR0 := (bq.frozen (p := ⟨w.heap.size + 1, 0, none⟩) zR).trans fR0
    replace cR1 := cell_later bq cR1
    replace fR1 := (bq.frozen (p := ⟨w.heap.size + 1, 1, none⟩) zR).trans fR1
    replace zR := Nat.lt_of_lt_of_le zR bq.size
    replace hb := hb.trans (bq.mono hb.size)
    clear hc bq
    go_wp2_with fail
    refine Calls.mono (HI1.out _) ?_
    rintro e w4 ⟨rfl, hc⟩
    have s4 : w3.heap.size ≤ w4.heap.size := hc.size
    have bq := hc
    replace cf0 := cell_later bq cf0
    replace zf := Nat.lt_of_lt_of_le zf bq.size
    replace cR0 := cell_later bq cR0
    replace fR0 := (bq.frozen (p := ⟨w.heap.size + 1, 0, none⟩) zR).trans fR0
    replace cR1 := cell_later bq cR1
    replace fR1 := (bq.frozen (p := ⟨w.heap.size + 1, 1, none⟩) zR).trans fR1
    replace zR := Nat.lt_of_lt_of_le zR bq.size
    replace hb := hb.trans (bq.mono hb.size)
    clear hc bq
    go_wp2_with fail
    refine Calls.mono (HI2.out _) ?_
    rintro e w5 ⟨rfl, hc⟩
    have s5 : w4.heap.size ≤ w5.heap.size := hc.size
    have bq := hc
    replace cf0 := cell_later bq cf0
    replace zf := Nat.lt_of_lt_of_le zf bq.size
    replace cR0 := cell_later bq cR0
    replace fR0 := (bq.frozen (p := ⟨w.heap.size + 1, 0, none⟩) zR).trans fR0
    replace cR1 := cell_later bq cR1
    replace fR1 := (bq.frozen (p := ⟨w.heap.size + 1, 1, none⟩) zR).trans fR1
    replace zR := Nat.lt_of_lt_of_le zR bq.size
    replace hb := hb.trans (bq.mono hb.size)
    clear hc bq
    go_wp2_with fail
    refine Calls.mono (HHI.out _ (hpr.below hb) cf0 (ha.below hb)) ?_
    rintro e w6 ⟨vh, rfl, rh, hc⟩
    obtain ⟨ah, kh, rfl, -⟩ := rh.shape
    replace rh := rh.read
    have s6 : w5.heap.size ≤ w6.heap.size := hc.size
    have bq := hc
    replace cf0 := cell_later bq cf0
    replace zf := Nat.lt_of_lt_of_le zf bq.size
    replace cR0 := cell_later bq cR0
    replace fR0 := (bq.frozen (p := ⟨w.heap.size + 1, 0, none⟩) zR).trans fR0
    replace cR1 := cell_later bq cR1
    replace fR1 := (bq.frozen (p := ⟨w.heap.size + 1, 1, none⟩) zR).trans fR1
    replace zR := Nat.lt_of_lt_of_le zR bq.size
    replace hb := hb.trans (bq.mono hb.size)
    clear hc bq
    go_wp2_with fail
    refine Calls.mono (HFI.out ah kh _ rh) ?_
    rintro e w7 ⟨rfl, hc⟩
    have s7 : w6.heap.size ≤ w7.heap.size := hc.size
    have bq := hc
    replace cf0 := cell_later bq cf0
    replace zf := Nat.lt_of_lt_of_le zf bq.size
    replace cR0 := cell_later bq cR0
    replace fR0 := (bq.frozen (p := ⟨w.heap.size + 1, 0, none⟩) zR).trans fR0
    replace cR1 := cell_later bq cR1
    replace fR1 := (bq.frozen (p := ⟨w.heap.size + 1, 1, none⟩) zR).trans fR1
    replace zR := Nat.lt_of_lt_of_le zR bq.size
    replace hb := hb.trans (bq.mono hb.size)
    clear hc bq
    go_wp2
    exact bodyPost_ret (v := .agg #[.int .i64 0, .int .i64 V]) (by simp [results, Try.results60, go_sem, cR0, cR1]) rfl ⟨rfl, ((hb.setCell (by first | omega | (simp; omega) | simp) _).setCell (by first | omega | (simp; omega) | simp) _)⟩
end Go.Proofs.Ytaeolofailompaa
