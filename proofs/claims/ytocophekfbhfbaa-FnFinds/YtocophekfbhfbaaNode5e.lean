/-
  Chapter 5: the specification's NodesFault: the whole.
-/
import Derived.Test.YtocophekfbhfbaaNode5A
namespace Go.Proofs.Ytocophekfbhfbaa
open Go.RowKit
set_option linter.unusedVariables false
set_option linter.unusedSimpArgs false

theorem nf_many {cs : List Nd} (h : cs.length < 1 ∨ 24 < cs.length) : nodesFault cs = 2 := if_pos h
theorem nf_go {cs : List Nd} (h : ¬ (cs.length < 1 ∨ 24 < cs.length)) : nodesFault cs = faultGo [] (cs.drop 0) := if_neg h
theorem go_form {cs : List Nd} {k : Nat} {x : Nd} {bs : List Int} (hx : cs[k]? = some x) (h : ¬ FormP x) : faultGo bs (cs.drop k) = 1 := by rw [faultGo_at bs hx, if_pos h]
theorem go_range {cs : List Nd} {k : Nat} {x : Nd} {bs : List Int} (hx : cs[k]? = some x) (h : FormP x) (h2 : rangeB x = false) : faultGo bs (cs.drop k) = 3 := by rw [faultGo_at bs hx, if_neg (by simpa using h), if_pos h2]
theorem go_behind {cs : List Nd} {k : Nat} {x : Nd} {bs : List Int} (hx : cs[k]? = some x) (h : FormP x) (h2 : rangeB x = true) (h3 : beg bs x = -1) : faultGo bs (cs.drop k) = 1 := by rw [faultGo_at bs hx, if_neg (by simpa using h), if_neg (by simp [h2]), if_pos h3]
theorem go_next {cs : List Nd} {k : Nat} {x : Nd} {bs : List Int} (hx : cs[k]? = some x) (h : FormP x) (h2 : rangeB x = true) (h3 : beg bs x ≠ -1) : faultGo (bs ++ [beg bs x]) (cs.drop (k + 1)) = faultGo bs (cs.drop k) := by rw [faultGo_at bs hx, if_neg (by simpa using h), if_neg (by simp [h2]), if_neg h3]
theorem go_last {cs : List Nd} {k : Nat} {bs : List Int} (hb : Beg cs k bs) (hk : k = cs.length) : faultGo bs (cs.drop k) = if bs.getD (k - 1) 0 = 0 then 0 else 1 := by
  rw [List.drop_of_length_le (by omega)]
  show (if bs.getD (bs.length - 1) 0 = 0 then (0 : Int) else 1) = _
  rw [hb.len]

/-- What is still to be told. -/
def Told (bs : List Int) (ns : List Nd) (R : Int) : Prop := faultGo bs ns = R

set_option maxHeartbeats 3200000 in
set_option maxRecDepth 20000 in
theorem l5Fault_any (a : Option Addr) (n ca : Nat) (cs : List Nd) (w : World) (ha : RdR ndE 5 w a n cs) (hs : ndSum cs ≤ 1048576) (h1 : n ≤ 1048576) :
    Calls Try.prog 101 #[.slice a n ca] w fun e w' => e = .returned (.int .i64 (nodesFault cs)) ∧ Below w.heap.size w w' := by
  have hlen := ha.1
  by_cases hn : n < 1 ∨ 24 < n
  · rw [nf_many (by omega)]
    by_cases h0 : n < 1
    · have h0' : (n : Int) < 1 := by omega
      go_enter Try.func101, Try.ntmps101
      go_wp2
      go_ret
      exact ⟨rfl, Below.refl _ _⟩
    · have h0' : ¬ (n : Int) < 1 := by omega
      have h24 : (24 : Int) < (n : Int) := by omega
      go_enter Try.func101, Try.ntmps101
      go_wp2
      go_ret
      exact ⟨rfl, Below.refl _ _⟩
  obtain ⟨R, hR⟩ : ∃ R, R = nodesFault cs := ⟨_, rfl⟩
  rw [← hR]
  rw [nf_go (by omega)] at hR
  have HT : Told [] (cs.drop 0) R := hR.symm
  have HL : Hid _ := hlen
  have HS : Hid _ := hs
  clear hR hlen hs
  have h0' : ¬ (n : Int) < 1 := by omega
  have h24 : ¬ (24 : Int) < (n : Int) := by omega
  go_enter Try.func101, Try.ntmps101
  go_wp2
  go_loopw [3] (fun i wr => ∃ (k : Nat) (bs : List Int), k ≤ n ∧ i = .int .i64 k ∧ Beg cs k bs ∧ Told bs (cs.drop k) R ∧ Below w.heap.size w wr) (fun i _ => n - (intOf i).toNat)
  case atStart => exact ⟨0, [], Nat.zero_le _, rfl, Beg.zero _, HT, Below.refl _ _⟩
  case round =>
    obtain ⟨k, bs, hk, rfl, hb, ht, hbw⟩ := hrel
    clear HT
    have ha' := ha.below hbw
    by_cases hlt : k < n
    · have hlt' : (k : Int) < (n : Int) := by omega
      obtain ⟨b, off, x, rfl, hx, hc⟩ := ha'.at hlt
      obtain ⟨c0, c1, c2, c3, c4⟩ := five hc
      have hxs := ndSum_at (List.mem_of_getElem? hx)
      have hss := HS.out
      have CF : Hid _ := l5Form_any b (off + k * 5) x wr c0 c1 c2 c3 c4
      clear hc
      by_cases hf : FormP x
      case neg =>
        have hfd : decide (FormP x) = false := decide_eq_false hf
        rw [hfd] at CF
        have hfin : 1 = R := (go_form hx hf).symm.trans ht
        subst hfin
        clear hfd hx hxs hss
        obtain ⟨k', c', s', l', r'⟩ := x
        simp only at c0 c1 c2 c3 c4
        go_wp2_with (go_at_call 179; refine Calls.mono CF.out ?_; rintro e w1 ⟨rfl, rfl⟩)
        go_ret
        exact ⟨rfl, hbw⟩
      have hfd : decide (FormP x) = true := decide_eq_true hf
      rw [hfd] at CF
      have CB : Hid _ := fun w' h' => l5Behind_any (some ⟨b, off, none⟩) n ca cs k bs x w' h' hb hx hlt (by omega) hf
      clear hfd
      by_cases k2 : x.k = 2
      · have CH : Hid _ := fun w' => l5Has_is 2 false w' (by decide)
        by_cases hci : 32 ≤ x.c ∧ x.c ≤ 126
        case neg =>
          have CI : Hid _ := fun w' => in5_is x.c 32 126 false w' (by simpa using hci)
          have hr : rangeB x = false := by unfold rangeB; rw [if_pos k2]; exact decide_eq_false hci
          have hfin : 3 = R := (go_range hx hf hr).symm.trans ht
          subst hfin
          clear hx hxs hss hf CB hr
          obtain ⟨k', c', s', l', r'⟩ := x
          simp only at c0 c1 c2 c3 c4 k2 hci CI
          subst k2
          clear hci
          go_wp2_with (first | (go_at_call 179; refine Calls.mono CF.out ?_; rintro e w1 ⟨rfl, rfl⟩) | (go_at_call 77; refine (CI.out _).mono ?_; rintro e w1 ⟨rfl, rfl⟩) | (go_at_call 180; refine (CH.out _).mono ?_; rintro e w1 ⟨rfl, rfl⟩))
          go_ret
          exact ⟨rfl, hbw⟩
        have CI : Hid _ := fun w' => in5_is x.c 32 126 true w' (by simpa using hci)
        have hr : rangeB x = true := by unfold rangeB; rw [if_pos k2]; exact decide_eq_true hci
        by_cases hg : beg bs x = -1
        · have hgd : decide (beg bs x ≠ -1) = false := decide_eq_false (by simpa using hg)
          rw [hgd] at CB
          have hfin : 1 = R := (go_behind hx hf hr hg).symm.trans ht
          subst hfin
          clear hgd hx hxs hss hf hr hci
          obtain ⟨k', c', s', l', r'⟩ := x
          simp only at c0 c1 c2 c3 c4 k2 CI
          subst k2
          go_wp2_with (first | (go_at_call 179; refine Calls.mono CF.out ?_; rintro e w1 ⟨rfl, rfl⟩) | (go_at_call 77; refine (CI.out _).mono ?_; rintro e w1 ⟨rfl, rfl⟩) | (go_at_call 180; refine (CH.out _).mono ?_; rintro e w1 ⟨rfl, rfl⟩))
          refine (CB.out _ ha').mono ?_
          rintro e w9 ⟨rfl, hb8⟩
          have hb9 := hbw.trans (hb8.mono hbw.size)
          go_wp2
          go_ret
          exact ⟨rfl, hb9⟩
        · have hgd : decide (beg bs x ≠ -1) = true := decide_eq_true hg
          rw [hgd] at CB
          have HB' : Hid _ := hb.succ hx hf hr hg
          have HT' : Hid (Told (bs ++ [beg bs x]) (cs.drop (k + 1)) R) := (go_next hx hf hr hg).trans ht
          generalize bs ++ [beg bs x] = bs' at HB' HT'
          clear hgd hx hxs hss hf hr hci hg
          obtain ⟨k', c', s', l', r'⟩ := x
          simp only at c0 c1 c2 c3 c4 k2 CI
          subst k2
          go_wp2_with (first | (go_at_call 179; refine Calls.mono CF.out ?_; rintro e w1 ⟨rfl, rfl⟩) | (go_at_call 77; refine (CI.out _).mono ?_; rintro e w1 ⟨rfl, rfl⟩) | (go_at_call 180; refine (CH.out _).mono ?_; rintro e w1 ⟨rfl, rfl⟩))
          refine (CB.out _ ha').mono ?_
          rintro e w9 ⟨rfl, hb8⟩
          have hb9 := hbw.trans (hb8.mono hbw.size)
          go_wp2
          go_roundw
          case rel => exact ⟨k + 1, bs', by omega, by go_num, HB'.out, HT'.out, hb9⟩
          case measure => simp [intOf]; omega
      have k2' : (x.k == 2) = false := by simpa using k2
      by_cases kH : x.k = 4 ∨ x.k = 5
      · have CH : Hid _ := fun w' => l5Has_is x.k true w' (by simpa using kH)
        have CS : Hid _ := fun w' => l5Set_any x.s w' (by omega)
        by_cases hset : setB x.s = true
        case neg =>
          have hset : setB x.s = false := by simpa using hset
          rw [hset] at CS
          have hr : rangeB x = false := by unfold rangeB; rw [if_neg k2, if_pos kH]; exact hset
          have hfin : 3 = R := (go_range hx hf hr).symm.trans ht
          subst hfin
          clear hx hxs hss hf CB hr hset kH k2
          obtain ⟨k', c', s', l', r'⟩ := x
          simp only at c0 c1 c2 c3 c4 k2' CH CS
          go_wp2_with (first | (go_at_call 179; refine Calls.mono CF.out ?_; rintro e w1 ⟨rfl, rfl⟩) | (go_at_call 180; refine (CH.out _).mono ?_; rintro e w1 ⟨rfl, rfl⟩))
          refine (CS.out _).mono ?_
          rintro e w2 ⟨rfl, hb2⟩
          go_wp2
          go_ret
          exact ⟨rfl, hbw.trans (hb2.mono hbw.size)⟩
        rw [hset] at CS
        have hr : rangeB x = true := by unfold rangeB; rw [if_neg k2, if_pos kH]; exact hset
        by_cases hg : beg bs x = -1
        · have hgd : decide (beg bs x ≠ -1) = false := decide_eq_false (by simpa using hg)
          rw [hgd] at CB
          have hfin : 1 = R := (go_behind hx hf hr hg).symm.trans ht
          subst hfin
          clear hgd hx hxs hss hf hr hset kH k2
          obtain ⟨k', c', s', l', r'⟩ := x
          simp only at c0 c1 c2 c3 c4 k2' CH CS
          go_wp2_with (first | (go_at_call 179; refine Calls.mono CF.out ?_; rintro e w1 ⟨rfl, rfl⟩) | (go_at_call 180; refine (CH.out _).mono ?_; rintro e w1 ⟨rfl, rfl⟩))
          refine (CS.out _).mono ?_
          rintro e w2 ⟨rfl, hb2⟩
          have hb7 := hbw.trans (hb2.mono hbw.size)
          go_wp2_with fail
          refine (CB.out _ (ha.below hb7)).mono ?_
          rintro e w9 ⟨rfl, hb8⟩
          have hb9 := hb7.trans (hb8.mono hb7.size)
          go_wp2
          go_ret
          exact ⟨rfl, hb9⟩
        · have hgd : decide (beg bs x ≠ -1) = true := decide_eq_true hg
          rw [hgd] at CB
          have HB' : Hid _ := hb.succ hx hf hr hg
          have HT' : Hid (Told (bs ++ [beg bs x]) (cs.drop (k + 1)) R) := (go_next hx hf hr hg).trans ht
          generalize bs ++ [beg bs x] = bs' at HB' HT'
          clear hgd hx hxs hss hf hr hset kH k2 hg
          obtain ⟨k', c', s', l', r'⟩ := x
          simp only at c0 c1 c2 c3 c4 k2' CH CS
          go_wp2_with (first | (go_at_call 179; refine Calls.mono CF.out ?_; rintro e w1 ⟨rfl, rfl⟩) | (go_at_call 180; refine (CH.out _).mono ?_; rintro e w1 ⟨rfl, rfl⟩))
          refine (CS.out _).mono ?_
          rintro e w2 ⟨rfl, hb2⟩
          have hb7 := hbw.trans (hb2.mono hbw.size)
          go_wp2_with fail
          refine (CB.out _ (ha.below hb7)).mono ?_
          rintro e w9 ⟨rfl, hb8⟩
          have hb9 := hb7.trans (hb8.mono hb7.size)
          go_wp2
          go_roundw
          case rel => exact ⟨k + 1, bs', by omega, by go_num, HB'.out, HT'.out, hb9⟩
          case measure => simp [intOf]; omega
      have CH : Hid _ := fun w' => l5Has_is x.k false w' (by simpa using kH)
      have hr : rangeB x = true := by unfold rangeB; rw [if_neg k2, if_neg kH]
      by_cases hg : beg bs x = -1
      · have hgd : decide (beg bs x ≠ -1) = false := decide_eq_false (by simpa using hg)
        rw [hgd] at CB
        have hfin : 1 = R := (go_behind hx hf hr hg).symm.trans ht
        subst hfin
        clear hgd hx hxs hss hf hr kH k2
        obtain ⟨k', c', s', l', r'⟩ := x
        simp only at c0 c1 c2 c3 c4 k2' CH
        go_wp2_with (first | (go_at_call 179; refine Calls.mono CF.out ?_; rintro e w1 ⟨rfl, rfl⟩) | (go_at_call 180; refine (CH.out _).mono ?_; rintro e w1 ⟨rfl, rfl⟩))
        refine (CB.out _ ha').mono ?_
        rintro e w9 ⟨rfl, hb8⟩
        have hb9 := hbw.trans (hb8.mono hbw.size)
        go_wp2
        go_ret
        exact ⟨rfl, hb9⟩
      · have hgd : decide (beg bs x ≠ -1) = true := decide_eq_true hg
        rw [hgd] at CB
        have HB' : Hid _ := hb.succ hx hf hr hg
        have HT' : Hid (Told (bs ++ [beg bs x]) (cs.drop (k + 1)) R) := (go_next hx hf hr hg).trans ht
        generalize bs ++ [beg bs x] = bs' at HB' HT'
        clear hgd hx hxs hss hf hr kH k2 hg
        obtain ⟨k', c', s', l', r'⟩ := x
        simp only at c0 c1 c2 c3 c4 k2' CH
        go_wp2_with (first | (go_at_call 179; refine Calls.mono CF.out ?_; rintro e w1 ⟨rfl, rfl⟩) | (go_at_call 180; refine (CH.out _).mono ?_; rintro e w1 ⟨rfl, rfl⟩))
        refine (CB.out _ ha').mono ?_
        rintro e w9 ⟨rfl, hb8⟩
        have hb9 := hbw.trans (hb8.mono hbw.size)
        go_wp2
        go_roundw
        case rel => exact ⟨k + 1, bs', by omega, by go_num, HB'.out, HT'.out, hb9⟩
        case measure => simp [intOf]; omega
    · obtain rfl : k = n := by omega
      have hfin := (go_last hb (by rw [HL.out])).symm.trans ht
      have CL : Hid _ := fun w' h' => l5First_any a k ca cs k bs w' h' hb (Nat.le_refl _) (by omega) (k - 1) (by omega)
      rw [show ((k - 1 : Nat) : Int) = (k : Int) - 1 by omega] at CL
      generalize bs.getD (k - 1) 0 = B at hfin CL
      have HF : Hid _ := hfin
      clear hfin
      by_cases hB : B = 0
      · have hf2 : R = 0 := HF.out.symm.trans (if_pos hB)
        subst hf2
        subst hB
        go_wp2_with fail
        refine (CL.out _ ha').mono ?_
        rintro e w1 ⟨rfl, rfl⟩
        go_wp2
        go_ret
        exact ⟨rfl, hbw⟩
      · have hf2 : R = 1 := HF.out.symm.trans (if_neg hB)
        subst hf2
        have hB' : (B == 0) = false := by simpa using hB
        go_wp2_with fail
        refine (CL.out _ ha').mono ?_
        rintro e w1 ⟨rfl, rfl⟩
        go_wp2
        go_ret
        exact ⟨rfl, hbw⟩

end Go.Proofs.Ytocophekfbhfbaa