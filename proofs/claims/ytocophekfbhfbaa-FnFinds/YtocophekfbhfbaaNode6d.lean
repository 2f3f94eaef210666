/-
  Chapter 5: the program's NodesFault: the whole.
-/
import Derived.Test.YtocophekfbhfbaaNode6A
import Derived.Test.YtocophekfbhfbaaNode5e
import Derived.Test.YtocophekfbhfbaaAppend
import Derived.Test.YtocophekfbhfbaaEnc
namespace Go.Proofs.Ytocophekfbhfbaa
open Go.RowKit
set_option linter.unusedVariables false
set_option linter.unusedSimpArgs false

theorem info64n : (Try.prog.info? 2).map (fun i => (i.zero, i.size, i.bytes)) = some (some (.int .i64 0), 1, 8) := by kernel_rfl

theorem lit5_rd {k : IntKind} {e : TypeId} (w : World) (zs : List Int) (n : Nat) (hn : zs.length = n) (hm : n ≤ maxLen) : Rd k (w.alloc (.cells (zs.map (Value.int k)).toArray e)) (some ⟨w.heap.size, 0, none⟩) n zs := by
  have := own_lit (k := k) (e := e) w (zs.map (Value.int k)).toArray n w.heap.size zs (by simp) hn (Nat.le_refl _) hm
  obtain ⟨a, c, hv, hr, _⟩ := this.rd
  simp only [Value.slice.injEq] at hv
  rw [hv.1, ← hn]
  exact hr

set_option maxHeartbeats 3200000 in
set_option maxRecDepth 20000 in
theorem implNodesFault_any (a : Option Addr) (n ca : Nat) (cs : List Nd) (w : World) (ha : RdR ndE 5 w a n cs) (hs : ndSum cs ≤ 1048576) (h1 : n ≤ 1048576) :
    Calls Try.prog 28 #[.slice a n ca] w fun e w' => e = .returned (.int .i64 (nodesFault cs)) ∧ Below w.heap.size w w' := by
  obtain ⟨i0, hi, hz0, hz1, hz2⟩ := info_parts info64n
  have hlen := ha.1
  by_cases hn : n < 1 ∨ 24 < n
  · rw [nf_many (by omega)]
    by_cases h0 : n < 1
    · have h0' : (n : Int) < 1 := by omega
      go_enter Try.func28, Try.ntmps28
      go_wp2
      go_ret
      exact ⟨rfl, Below.refl _ _⟩
    · have h0' : ¬ (n : Int) < 1 := by omega
      have h24 : (24 : Int) < (n : Int) := by omega
      go_enter Try.func28, Try.ntmps28
      go_wp2
      go_ret
      exact ⟨rfl, Below.refl _ _⟩
  obtain ⟨R, hR⟩ : ∃ R, R = nodesFault cs := ⟨_, rfl⟩
  rw [← hR]
  rw [nf_go (by omega)] at hR
  have HT : Told [] (cs.drop 0) R := hR.symm
  have HL : Hid _ := hlen
  have HS : Hid _ := hs
  clear hR hlen hs
  have h0' : ¬ (n : Int) < 1 := by omega
  have h24 : ¬ (24 : Int) < (n : Int) := by omega
  have hn24 : n ≤ 24 := by omega
  clear hn
  go_enter Try.func28, Try.ntmps28
  go_wp2_with (at_make; refine wpList_make_own _ rfl _ _ 60 rfl w.heap.size 2 i0 (.int .i64 0) 1 Try.underlying60 hi hz0 hz1 _ _ _ 24 rfl rfl rfl (by rw [hz2]; omega) (by simp [maxLen]) (Nat.le_refl _) ?_)
  intro w1 hown1 hgrow1
  have hb1 : Below w.heap.size w w1 := (Below.refl _ _).grown hgrow1 (Nat.le_refl _) (by simp)
  have ho1 : Own .i64 2 w1 w.heap.size (.slice (some ⟨w.heap.size, 0, none⟩) 0 24) 0 [] := hown1
  clear hown1 hgrow1
  go_wp2
  go_loopw [3, 18] (fun x i wr => ∃ (k : Nat) (bs : List Int), k ≤ n ∧ i = .int .i64 k ∧ Own .i64 2 wr w.heap.size x k bs ∧ Beg cs k bs ∧ Told bs (cs.drop k) R ∧ Below w.heap.size w wr) (fun _ i _ => n - (intOf i).toNat)
  case atStart => exact ⟨0, [], Nat.zero_le _, rfl, ho1, Beg.zero _, HT, hb1⟩
  case round =>
    obtain ⟨k, bs, hk, rfl, ho, hb, ht, hbw⟩ := hrel
    clear HT ho1 hb1
    obtain ⟨va, vc, hv, hrd, hvm⟩ := ho.rd
    subst hv
    have ha' := ha.below hbw
    by_cases hlt : k < n
    · have hlt' : (k : Int) < (n : Int) := by omega
      obtain ⟨b, off, x, rfl, hx, hc⟩ := ha'.at hlt
      obtain ⟨c0, c1, c2, c3, c4⟩ := five hc
      have hxs := ndSum_at (List.mem_of_getElem? hx)
      have hss := HS.out
      have hkl : k ≤ cs.length := by rw [HL.out]; omega
      have CT : Hid _ := fun w' => hasTooMuch_any x w'
      have CB : Hid _ := fun w' => bytesAreRight_any x w' (by omega)
      have hB1 : ∀ o, Below w.heap.size w (wr.alloc o) := fun o => hbw.alloc hbw.size o
      have hcell := fun (o : Obj) (w2 : World) (h : Below (wr.alloc o).heap.size (wr.alloc o) w2) => h
      clear hc
      by_cases hf : FormP x
      case neg =>
        have hfd : decide (FormP x) = false := decide_eq_false hf
        rw [hfd] at CT
        have hfin : 1 = R := (go_form hx hf).symm.trans ht
        subst hfin
        clear hfd hx hxs hss CB
        obtain ⟨k', c', s', l', r'⟩ := x
        simp only at c0 c1 c2 c3 c4 CT
        go_wp2_with (go_at_call 96; refine (CT.out _).mono ?_; rintro e w2 ⟨rfl, hb2⟩)
        go_ret
        exact ⟨rfl, (hB1 _).trans (hb2.mono (hB1 _).size)⟩
      have hfd : decide (FormP x) = true := decide_eq_true hf
      rw [hfd] at CT
      have CG : Hid _ := fun w' h' => beginBehind_any x va k vc bs cs w' h' hb hkl (by omega) hf
      clear hfd
      by_cases hr : rangeB x = true
      case neg =>
        have hr : rangeB x = false := by simpa using hr
        rw [hr] at CB
        have hfin : 3 = R := (go_range hx hf hr).symm.trans ht
        subst hfin
        clear hx hxs hss hf hr CG
        obtain ⟨k', c', s', l', r'⟩ := x
        simp only at c0 c1 c2 c3 c4 CT CB
        go_wp2_with fail
        refine (CT.out _).mono ?_
        rintro e w2 ⟨rfl, hb2⟩
        have d0 : w2.cell? ⟨wr.heap.size, 0, none⟩ = some (.int .i64 k') := (hb2.cell (p := ⟨wr.heap.size, 0, none⟩) (by simp)).trans (by simp)
        have d1 : w2.cell? ⟨wr.heap.size, 1, none⟩ = some (.int .i64 c') := (hb2.cell (p := ⟨wr.heap.size, 1, none⟩) (by simp)).trans (by simp)
        have d2 : w2.cell? ⟨wr.heap.size, 2, none⟩ = some (.string s') := (hb2.cell (p := ⟨wr.heap.size, 2, none⟩) (by simp)).trans (by simp)
        have d3 : w2.cell? ⟨wr.heap.size, 3, none⟩ = some (.int .i64 l') := (hb2.cell (p := ⟨wr.heap.size, 3, none⟩) (by simp)).trans (by simp)
        have d4 : w2.cell? ⟨wr.heap.size, 4, none⟩ = some (.int .i64 r') := (hb2.cell (p := ⟨wr.heap.size, 4, none⟩) (by simp)).trans (by simp)
        have hb12 : Below wr.heap.size wr w2 := below_slot hb2
        have hb02 : Below w.heap.size w w2 := hbw.trans (hb12.mono hbw.size)
        clear hb2
        go_wp2_with fail
        refine (CB.out _).mono ?_
        rintro e w3 ⟨rfl, hb3⟩
        go_wp2
        go_ret
        exact ⟨rfl, hb02.trans (hb3.mono hb02.size)⟩
      rw [hr] at CB
      by_cases hg : beg bs x = -1
      · rw [hg] at CG
        have hfin : 1 = R := (go_behind hx hf hr hg).symm.trans ht
        subst hfin
        clear hx hxs hss hf hr hg
        obtain ⟨k', c', s', l', r'⟩ := x
        simp only at c0 c1 c2 c3 c4 CT CB CG
        go_wp2_with fail
        refine (CT.out _).mono ?_
        rintro e w2 ⟨rfl, hb2⟩
        have d0 : w2.cell? ⟨wr.heap.size, 0, none⟩ = some (.int .i64 k') := (hb2.cell (p := ⟨wr.heap.size, 0, none⟩) (by simp)).trans (by simp)
        have d1 : w2.cell? ⟨wr.heap.size, 1, none⟩ = some (.int .i64 c') := (hb2.cell (p := ⟨wr.heap.size, 1, none⟩) (by simp)).trans (by simp)
        have d2 : w2.cell? ⟨wr.heap.size, 2, none⟩ = some (.string s') := (hb2.cell (p := ⟨wr.heap.size, 2, none⟩) (by simp)).trans (by simp)
        have d3 : w2.cell? ⟨wr.heap.size, 3, none⟩ = some (.int .i64 l') := (hb2.cell (p := ⟨wr.heap.size, 3, none⟩) (by simp)).trans (by simp)
        have d4 : w2.cell? ⟨wr.heap.size, 4, none⟩ = some (.int .i64 r') := (hb2.cell (p := ⟨wr.heap.size, 4, none⟩) (by simp)).trans (by simp)
        have hb12 : Below wr.heap.size wr w2 := below_slot hb2
        have hb02 : Below w.heap.size w w2 := hbw.trans (hb12.mono hbw.size)
        clear hb2
        go_wp2_with fail
        refine (CB.out _).mono ?_
        rintro e w3 ⟨rfl, hb3⟩
        replace d0 := cell_later hb3 d0
        replace d1 := cell_later hb3 d1
        replace d2 := cell_later hb3 d2
        replace d3 := cell_later hb3 d3
        replace d4 := cell_later hb3 d4
        have hb03 := hb02.trans (hb3.mono hb02.size)
        have hb23 : Below wr.heap.size wr w3 := hb12.trans (hb3.mono hb12.size)
        clear hb3 hb02 hb12
        go_wp2_with fail
        refine (CG.out _ (hrd.below hb23)).mono ?_
        rintro e w4 ⟨rfl, hb4⟩
        go_wp2
        go_ret
        exact ⟨rfl, hb03.trans (hb4.mono hb03.size)⟩
      · have HB' : Hid _ := hb.succ hx hf hr hg
        have HT' : Hid (Told (bs ++ [beg bs x]) (cs.drop (k + 1)) R) := (go_next hx hf hr hg).trans ht
        generalize beg bs x = G at HB' HT' CG hg
        have hg' : (G == -1) = false := by simpa using hg
        clear hx hxs hss hf hr
        obtain ⟨k', c', s', l', r'⟩ := x
        simp only at c0 c1 c2 c3 c4 CT CB CG
        go_wp2_with fail
        refine (CT.out _).mono ?_
        rintro e w2 ⟨rfl, hb2⟩
        have d0 : w2.cell? ⟨wr.heap.size, 0, none⟩ = some (.int .i64 k') := (hb2.cell (p := ⟨wr.heap.size, 0, none⟩) (by simp)).trans (by simp)
        have d1 : w2.cell? ⟨wr.heap.size, 1, none⟩ = some (.int .i64 c') := (hb2.cell (p := ⟨wr.heap.size, 1, none⟩) (by simp)).trans (by simp)
        have d2 : w2.cell? ⟨wr.heap.size, 2, none⟩ = some (.string s') := (hb2.cell (p := ⟨wr.heap.size, 2, none⟩) (by simp)).trans (by simp)
        have d3 : w2.cell? ⟨wr.heap.size, 3, none⟩ = some (.int .i64 l') := (hb2.cell (p := ⟨wr.heap.size, 3, none⟩) (by simp)).trans (by simp)
        have d4 : w2.cell? ⟨wr.heap.size, 4, none⟩ = some (.int .i64 r') := (hb2.cell (p := ⟨wr.heap.size, 4, none⟩) (by simp)).trans (by simp)
        have hb12 : Below wr.heap.size wr w2 := below_slot hb2
        have hb02 : Below w.heap.size w w2 := hbw.trans (hb12.mono hbw.size)
        clear hb2
        go_wp2_with fail
        refine (CB.out _).mono ?_
        rintro e w3 ⟨rfl, hb3⟩
        replace d0 := cell_later hb3 d0
        replace d1 := cell_later hb3 d1
        replace d2 := cell_later hb3 d2
        replace d3 := cell_later hb3 d3
        replace d4 := cell_later hb3 d4
        have hb03 := hb02.trans (hb3.mono hb02.size)
        have hb23 : Below wr.heap.size wr w3 := hb12.trans (hb3.mono hb12.size)
        clear hb3 hb02 hb12
        go_wp2_with fail
        refine (CG.out _ (hrd.below hb23)).mono ?_
        rintro e w4 ⟨rfl, hb4⟩
        have hb04 := hb03.trans (hb4.mono hb03.size)
        have ho4 := (ho.below hb23).below hb4
        clear hb4 hb03 hb23 d0 d1 d2 d3 d4 ho hrd hbw ha'
        go_wp2_with (at_builtin; refine wpList_append_rd rfl _ _ 60 rfl .i64 w.heap.size 2 i0 8 Try.underlying60 hi hz0 hz1 hz2 _ _ bs rfl (World.ownsRow.alloc ho4 _) (some ⟨w4.heap.size, 0, none⟩) 1 1 [G] rfl (lit5_rd w4 [G] 1 rfl (by simp [maxLen])) (by simp [maxLen]; omega) (by omega) (by have := hb04.size; simp; omega) ?_)
        intro v5 w5 ho5 hg5
        have lo5 := ho4.lt
        have hb05 : Below w.heap.size w w5 := (hb04.alloc hb04.size _).grown hg5 (by have := hb04.size; simp; omega) (fun j hj => (lo5 j hj).1)
        go_wp2
        go_roundw
        case rel => exact ⟨k + 1, bs ++ [G], by omega, by go_num, ho5, HB'.out, HT'.out, hb05⟩
        case measure => simp [intOf]; omega
    · obtain rfl : k = n := by omega
      have hfin := (go_last hb (by rw [HL.out])).symm.trans ht
      obtain ⟨b, off, rfl, hc⟩ := hrd.at (show k - 1 < k by omega)
      have hcc := hc (k - 1) (by omega)
      generalize bs.getD (k - 1) 0 = B at hfin hcc
      obtain ⟨K, rfl⟩ : ∃ K, k = K + 1 := ⟨k - 1, by omega⟩
      rw [Nat.add_sub_cancel] at hcc
      have HF : Hid _ := hfin
      clear hfin hc hrd ho hb ht ha'
      by_cases hB : B = 0
      · have hf2 : R = 0 := HF.out.symm.trans (if_pos hB)
        subst hf2
        subst hB
        go_wp2
        go_ret
        exact ⟨rfl, hbw⟩
      · have hf2 : R = 1 := HF.out.symm.trans (if_neg hB)
        subst hf2
        have hB' : (B == 0) = false := by simpa using hB
        go_wp2
        go_ret
        exact ⟨rfl, hbw⟩
end Go.Proofs.Ytocophekfbhfbaa
