/-
  Rtb0, Rtb1, Rtb2, Rtb3 in one text.
-/
import Derived.Test.YtlemdjgpkmjihaaGreatEntC
import Derived.Test.YtlemdjgpkmjihaaGreatStpA
import Derived.Test.YtlemdjgpkmjihaaGreatMath2
import Derived.Test.YtlemdjgpkmjihaaGreatRun2a
namespace Go.Proofs.YtlemdjgpkmjihaaGreat
open Go.RowKit
set_option linter.unusedVariables false
set_option linter.unusedSimpArgs false

/-- From a state at i on; the last place at which one was done is out: that place then, and the states. -/
def rtGo (is : List In) (z : Int) (text : List Int) : Nat → Nat → List St → Nat → Int → Int × List St
  | 0, _, ts, _, out => (out, ts)
  | f + 1, i, ts, s, out =>
    if i = text.length then (if doneL is (placesOf (closeS is (decide (i = 0)) true (stAt ts s).1)) then (i : Int) else out, ts)
    else if (stAt ts s).1 = [] then (out, ts)
    else rtGo is z text f (i + 1) (goS is z ts s (text.getD i 0)) (goP is z ts s (text.getD i 0)).toNat (if doneL is (stAt ts s).1 then (i : Int) else out)
def rt0 (is : List In) (b : Bool) : List Int := placesOf (closeS is b false [0])
def rtAll (is : List In) (z : Int) (ts : List St) (text : List Int) (at_ : Nat) : Int × List St :=
  rtGo is z text (text.length - at_ + 1) at_ (entS z ts (rt0 is (decide (at_ = 0)))) (entP z ts (rt0 is (decide (at_ = 0)))).toNat (-1)

theorem rtGo_end {is : List In} {z : Int} {text : List Int} {f i : Nat} {ts : List St} {s : Nat} {out : Int} {x : St} (hx : ts[s]? = some x) (hi : i = text.length) :
    rtGo is z text (f + 1) i ts s out = (if doneL is (placesOf (closeS is (decide (i = 0)) true x.1)) then (i : Int) else out, ts) := by
  rw [rtGo, if_pos hi, stAt_of hx]
theorem rtGo_nil {is : List In} {z : Int} {text : List Int} {f i : Nat} {ts : List St} {s : Nat} {out : Int} {x : St} (hx : ts[s]? = some x) (hi : i ≠ text.length) (h : x.1 = []) :
    rtGo is z text (f + 1) i ts s out = (out, ts) := by
  rw [rtGo, if_neg hi, stAt_of hx, if_pos h]
theorem rtGo_go {is : List In} {z : Int} {text : List Int} {f i : Nat} {ts : List St} {s : Nat} {out : Int} {x : St} (hx : ts[s]? = some x) (hi : i ≠ text.length) (h : x.1 ≠ []) :
    rtGo is z text (f + 1) i ts s out = rtGo is z text f (i + 1) (goS is z ts s (text.getD i 0)) (goP is z ts s (text.getD i 0)).toNat (if doneL is x.1 then (i : Int) else out) := by
  rw [rtGo, if_neg hi, stAt_of hx, if_neg h]
theorem doneL_nil (is : List In) : doneL is [] = false := rfl

theorem rtGo_I {is : List In} (hin : Inside is) (h80 : is.length ≤ 80) {z : Int} {text : List Int} : ∀ (f i : Nat) (ts : List St) (s : Nat) (out : Int) (M : Nat), TabI is.length z M ts → s < ts.length → TabI is.length z (M + f) (rtGo is z text f i ts s out).2
  | 0, i, ts, s, out, M, h, hs => h
  | f + 1, i, ts, s, out, M, h, hs => by
    have hx : ts[s]? = some ts[s] := List.getElem?_eq_getElem hs
    by_cases hi : i = text.length
    · rw [rtGo_end hx hi]; exact h.more (by omega)
    · by_cases hn : ts[s].1 = []
      · rw [rtGo_nil hx hi hn]; exact h.more (by omega)
      · rw [rtGo_go hx hi hn]
        obtain ⟨h1, h2, h3⟩ := h.step hin h80 hs (text.getD i 0)
        have := rtGo_I (text := text) hin h80 f (i + 1) _ (goP is z ts s (text.getD i 0)).toNat (if doneL is ts[s].1 then (i : Int) else out) (M + 1) h1 (by omega)
        rw [show M + (f + 1) = M + 1 + f by omega]
        exact this
/-- The first set. -/
theorem rt0_ok {is : List In} (hin : Inside is) (h1 : 1 ≤ is.length) (h80 : is.length ≤ 80) (b : Bool) :
    (rt0 is b).Pairwise (· < ·) ∧ (∀ x ∈ rt0 is b, 0 ≤ x ∧ x < (is.length : Int)) ∧ (rt0 is b).length ≤ 80 ∧ closeI is b false (placesOf first80) = markB (rt0 is b) := by
  obtain ⟨q1, q2, q3, q4⟩ := first_eq hin h1 h80 b false
  have hlt : ∀ x ∈ rt0 is b, 0 ≤ x ∧ x < (is.length : Int) := by
    intro x hx
    unfold rt0 at hx
    rw [← q1] at hx
    obtain ⟨q, rfl, hq⟩ := placesOf_mem.1 hx
    have := q3 q hq
    omega
  refine ⟨placesOf_rise _, hlt, ?_, ?_⟩
  · unfold rt0
    rw [← q1]
    have := placesOf_len (closeI is b false (placesOf first80))
    omega
  · unfold rt0
    rw [← q1]
    exact (placesOf_back q4).symm

/-- RunTable: code, value, size, states. -/
def rtCode (is : List In) (z : Int) (ts : List St) (text : List Int) (at_ : Int) : Int := if tabF is z ts ≠ 0 then tabF is z ts else if 400 < text.length then 2 else if ¬ (0 ≤ at_ ∧ at_ ≤ text.length) then 3 else 0
def rtVal (is : List In) (z : Int) (ts : List St) (text : List Int) (at_ : Int) : Int := if rtCode is z ts text at_ = 0 then (rtAll is z ts text at_.toNat).1 else 0
def rtSize (is : List In) (z : Int) (ts : List St) (text : List Int) (at_ : Int) : Int := if rtCode is z ts text at_ = 0 then z else 0
def rtRows (is : List In) (z : Int) (ts : List St) (text : List Int) (at_ : Int) : List St := if rtCode is z ts text at_ = 0 then (rtAll is z ts text at_.toNat).2 else []
theorem rtAll_I {is : List In} {z : Int} {ts : List St} {text : List Int} {at_ : Nat} (hf : tabF is z ts = 0) (h4 : text.length ≤ 400) : TabI is.length z 657 (rtAll is z ts text at_).2 := by
  have hp := (tabF_ok hf).1
  have hq := progFault_ok hp
  obtain ⟨h1, h2, h3, -⟩ := rt0_ok (inside_of hp) hq.1 hq.2.1 (decide (at_ = 0))
  obtain ⟨e1, e2, -⟩ := (tabI_of hf).enter h1 h2 h3
  exact (rtGo_I (inside_of hp) hq.2.1 _ _ _ _ _ 256 e1 (by omega)).more (by omega)
theorem rtRows_len (is : List In) (z : Int) (ts : List St) (text : List Int) (at_ : Int) : ((rtRows is z ts text at_).length : Int) + stN (rtRows is z ts text at_) ≤ 10000 := by
  unfold rtRows
  by_cases h : rtCode is z ts text at_ = 0
  · rw [if_pos h]
    unfold rtCode at h
    by_cases hf : tabF is z ts ≠ 0
    · rw [if_pos hf] at h; exact absurd h hf
    · rw [if_neg hf] at h
      by_cases h4 : 400 < text.length
      · rw [if_pos h4] at h; omega
      · have := (rtAll_I (at_ := at_.toNat) (Decidable.not_not.1 hf) (Nat.le_of_not_lt h4)).sum
        omega
  · rw [if_neg h]; simp [stN]
end Go.Proofs.YtlemdjgpkmjihaaGreat

namespace Go.Proofs.YtlemdjgpkmjihaaGreat
open Go.RowKit
set_option linter.unusedVariables false
set_option linter.unusedSimpArgs false

theorem bytes_atR {xs : List Int} {k : Nat} (h : Bytes xs) (hk : k < xs.length) : 0 ≤ xs.getD k 0 ∧ xs.getD k 0 < 256 := by
  have hm : xs.getD k 0 ∈ xs := by
    rw [List.getD_eq_getElem?_getD, List.getElem?_eq_getElem hk, Option.getD_some]
    exact List.getElem_mem hk
  have := h _ hm
  omega

set_option maxHeartbeats 6400000 in
set_option maxRecDepth 20000 in
theorem l8Run_any (W0 : World) (i : Option Addr) (ni ci : Nat) (is : List In) (lo B : Nat) (z : Int) (va : Option Addr) (n cva : Nat) (ts : List St) (x : Option Addr) (m cx : Nat) (text : List Int) (at_ : Nat) (w : World) (hin : Inside is) (hsi : inSum is ≤ 1048576) (h1 : 1 ≤ ni) (h2 : ni ≤ 80) (hm4 : m ≤ 400) (hat : at_ ≤ m) (hBy : Bytes text)
    (hi : RdR inE 8 W0 i ni is) (hxt : Rd .u8 W0 x m text) (hbw : Below W0.heap.size W0 w) (hbk : Blk w B #[.int .i64 z, .slice va n cva] 30) (hrow : RowT false 91 2 99 w lo w.heap.size (.slice va n cva) n ts) (hI : TabI is.length z 256 ts) (hlo : lo ≤ w.heap.size) (hbl : W0.heap.size ≤ lo) (hbB : W0.heap.size ≤ B) :
    Calls Tryz.prog 43 #[.slice i ni ci, .pointer (some ⟨B, 0, none⟩), .slice x m cx, .int .i64 (at_ : Int)] w fun e w' => e = .returned (.int .i64 (rtAll is z ts text at_).1) ∧ ∃ va' n' c', Blk w' B #[.int .i64 z, .slice va' n' c'] 30 ∧ RowT false 91 2 99 w' lo w'.heap.size (.slice va' n' c') n' (rtAll is z ts text at_).2 ∧ Below W0.heap.size W0 w' := by
  have hni := hi.1
  have hlx := hxt.1
  obtain ⟨r1, r2, r3, -⟩ := rt0_ok hin (by omega) (by omega) (decide (at_ = 0))
  obtain ⟨e1, e2, -⟩ := hI.enter r1 r2 r3
  have hsum := hI.sum
  have hln0 := RowN.len hrow
  have hBw : B < w.heap.size := hbk.lt
  obtain ⟨R, hR⟩ : ∃ R, R = rtAll is z ts text at_ := ⟨_, rfl⟩
  rw [← hR]
  unfold rtAll at hR
  rw [hlx] at hR
  obtain ⟨B0, hB0⟩ : ∃ B, B = decide (at_ = 0) := ⟨_, rfl⟩
  have hB1 : ((at_ : Int) == 0) = B0 := by rw [hB0, Bool.eq_iff_iff]; simp
  have hB2 : decide ((at_ : Int) = 0) = B0 := by rw [hB0, decide_eq_decide]; omega
  rw [← hB0] at r1 r2 r3 e1 e2 hR
  have HCL := hid (fun a' m' cx' xs' b e w' k1 k2 k3 k4 => l7Close_any i ni ci is a' m' cx' xs' b e hin h1 h2 k1 k2 w' k3 k4)
  have HEN := hid (fun (s' : Option Addr) (cs : Nat) (w' : World) h3 h4 h5 h6 h7 => l8Enter_any W0.heap.size lo B z va n cva ts s' (rt0 is B0).length cs (rt0 is B0) w' h3 h4 h5 (by omega) r3 h6 hbl hbB h7)
  have HBY := hid hBy
  have HLX := hid hlx
  have HNI := hid hni
  have hrt0 : placesOf (closeS is B0 false [0]) = rt0 is B0 := rfl
  generalize rt0 is B0 = X0 at *
  generalize entS z ts X0 = E0 at *
  obtain ⟨P0, hP0⟩ : ∃ P : Nat, entP z ts X0 = (P : Int) := ⟨(entP z ts X0).toNat, by omega⟩
  rw [hP0] at HEN e2 hR
  generalize entG z ts X0 = G0 at *
  have HR0 : Hid (rtGo is z text (m - at_ + 1) at_ E0 P0 (-1) = R) := hid (by rw [hR]; simp)
  have HE1 := hid e1
  have HP0 : Hid (P0 < E0.length) := hid (by omega)
  have HK := hid hbk
  have HRW := hid hrow
  have HW := hid hbw
  have HRT := hid hrt0
  have hl1 := lit5_rd (k := .i64) (e := 2) w [0] 1 rfl (by simp [maxLen])
  have hba := (Below.refl w.heap.size w).alloc (Nat.le_refl _) (.cells #[.int .i64 0] 2)
  have HL1 := hid hl1
  have HBA := hid hba
  clear hR hB0 r1 r2 r3 e1 e2 hsum hI hBy hlx hrt0 hP0 hbk hrow hbw hl1 hba hni
  go_enter Tryz.func43, Tryz.ntmps43
  go_wp2_with fail
  refine (HCL.out (some ⟨w.heap.size, 0, none⟩) 1 1 [0] B0 false _ (by omega) (fun q hq => by simp at hq; subst hq; omega) (hi.below (HW.out.trans (HBA.out.mono HW.out.size))) HL1.out).mono ?_
  rintro e w1 ⟨v1, rfl, ho1, hb1⟩
  rw [HRT.out] at ho1
  obtain ⟨a1, c1, rfl, -, -⟩ := ho1.rd
  have HO1 := hid ho1
  have HB1 := hid (HBA.out.trans (hb1.mono HBA.out.size))
  clear ho1 hb1
  go_wp2_with fail
  refine (HEN.out a1 c1 w1 (Blk.of HK.out HB1.out) (RowN.mono (tabOk false) (RowN.below (tabOk false) HRW.out HB1.out) (Nat.le_refl _) HB1.out.size) HO1.out.read (by have := HB1.out.size; omega) (fun _ ad had => by
    rcases HO1.out.2 with ⟨e, -⟩ | ⟨g', cap', cur, e, hbg, -⟩
    · rw [Value.slice.injEq] at e
      rw [had] at e
      cases e.1
    · rw [Value.slice.injEq] at e
      rw [had] at e
      have e9 := e.1
      cases e9
      show g' ≠ B
      have hbg2 : w.heap.size ≤ g' := by have := HBA.out.size; simp at hbg; omega
      omega)).mono ?_
  rintro e w3 ⟨rfl, va3, n3, c3, hk3, hr3, hb3⟩
  have HW3 := hid ((HW.out.trans (HB1.out.mono HW.out.size)).trans hb3)
  have HK3 := hid hk3
  have HR3 := hid hr3
  have hlw3 : lo ≤ w3.heap.size := by
    have a1 := RowN.cases hr3
    rcases a1 with ⟨-, e, e'⟩ | ⟨g, cap, e, h0, h0', h0''⟩
    · have := HP0.out; rw [e'] at this; simp at this
    · omega
  clear hk3 hr3 hb3
  go_wp2
  go_loopw [9, 10, 12] (fun o st i wr => ∃ (k s f M : Nat) (out : Int) (ts' : List St) (va' : Option Addr) (n' c' : Nat), i = .int .i64 k ∧ st = .int .i64 s ∧ o = .int .i64 out ∧ k ≤ m ∧ Hid (f + k = m) ∧ Hid (M + f ≤ 656) ∧ Hid (TabI is.length z M ts') ∧ s < n' ∧ Hid (rtGo is z text (f + 1) k ts' s out = R) ∧ Hid (Blk wr B #[.int .i64 z, .slice va' n' c'] 30) ∧ Hid (RowT false 91 2 99 wr lo wr.heap.size (.slice va' n' c') n' ts') ∧ lo ≤ wr.heap.size ∧ Hid (Below W0.heap.size W0 wr)) (fun _ _ i _ => m + 1 - (intOf i).toNat)
  case atStart => exact ⟨at_, P0, m - at_, 256, -1, E0, va3, n3, c3, rfl, rfl, rfl, hat, hid (by omega), hid (by omega), HE1, (by have := RowN.len HR3.out; have := HP0.out; omega), HR0, HK3, HR3, hlw3, HW3⟩
  case round =>
    obtain ⟨k, s, f, M, out, ts', va', n', c', rfl, rfl, rfl, hkm, HF, HM, HI, hsn, HRR, HKk, HRr, hlow, HWr⟩ := hrel
    clear HR0 HK3 HR3 HW3
    have hrd := RowT.read HRr.out
    obtain ⟨g, o, p, cp, q, cq, ss, az, rfl, hx, f0, f1, hrp, hrq, -, -⟩ := hrd.at hsn
    have hxm : (ss, az) ∈ ts' := List.mem_of_getElem? hx
    have hr2 := HI.out.inn _ hxm
    have hr3 := HI.out.lens _ hxm
    simp only at hr2 hr3
    have HX := hid hx
    have HRP := hid hrp
    have ck1 : wr.cell? ⟨B, 1, none⟩ = some (.slice (some ⟨g, o, none⟩) n' c') := by have := HKk.out.cell 1; simpa using this
    have hsn' : (s : Int) < (n' : Int) := by omega
    have HIR := hid (hi.below HWr.out)
    clear hrd hx hxm f1 hrp hrq
    by_cases hkx : k = m
    · obtain ⟨b0, hb0⟩ : ∃ B, B = decide (k = 0) := ⟨_, rfl⟩
      have hk1 : ((k : Int) == 0) = b0 := by rw [hb0, Bool.eq_iff_iff]; simp
      have hk2 : decide ((k : Int) = 0) = b0 := by rw [hb0, decide_eq_decide]; omega
      have hre := HRR.out
      rw [rtGo_end HX.out (by rw [HLX.out]; exact hkx), ← hb0] at hre
      have HCC := hid (HCL.out p ss.length cp ss b0 true wr (by omega) (fun q hq => by have := hr2 q hq; have := HNI.out; omega) HIR.out HRP.out)
      have hlt9 : ∀ q ∈ placesOf (closeS is b0 true ss), 0 ≤ q ∧ q < (ni : Int) := by rw [← HNI.out]; exact (close_more hin (by have := HNI.out; omega) b0 true hr2).2
      have HDN := hid (fun a' cx' w' (k1 : Rd .i64 w' a' (placesOf (closeS is b0 true ss)).length (placesOf (closeS is b0 true ss))) (k2 : RdR inE 8 w' i ni is) (k3 : (placesOf (closeS is b0 true ss)).length ≤ 1048576) => l7Done_any i ni ci is a' _ cx' _ h2 k3 hlt9 w' k2 k1)
      have hclen : (placesOf (closeS is b0 true ss)).length ≤ 80 := by
        have := placesOf_len (closeS is b0 true ss)
        have h9 : (closeS is b0 true ss).length = is.length := dfsAll_len (goes_of hin b0 true).2 is.length (Nat.le_refl _) (by have := HNI.out; omega) _ (by simp) ss (fun p hp => by have := hr2 p hp; omega)
        have := HNI.out
        omega
      generalize placesOf (closeS is b0 true ss) = C at *
      have HCLN := hid hclen
      have HRE := hid hre
      clear hb0 hre hlt9 hclen HRR
      subst hkx
      go_wp2_with fail
      refine HCC.out.mono ?_
      rintro e w5 ⟨v5, rfl, ho5, hb5⟩
      obtain ⟨a5, c5, rfl, -, -⟩ := ho5.rd
      have HO5 := hid ho5
      have HB5 := hid hb5
      clear ho5 hb5
      go_wp2_with fail
      refine (HDN.out a5 c5 w5 HO5.out.read (HIR.out.below HB5.out) (by have := HCLN.out; omega)).mono ?_
      rintro e w6 ⟨rfl, hb6⟩
      have hb56 := HB5.out.trans (hb6.mono HB5.out.size)
      have HK6 := hid (Blk.of HKk.out hb56)
      have HR6 := hid (RowN.mono (tabOk false) (RowN.below (tabOk false) HRr.out hb56) (Nat.le_refl _) hb56.size)
      have HW6 := hid (HWr.out.trans (hb56.mono HWr.out.size))
      clear hb6 hb56
      cases hd : doneL is C
      · have hre := HRE.out
        rw [hd, if_neg (by simp)] at hre
        clear hd HRE
        subst hre
        go_wp2
        go_ret
        exact ⟨rfl, _, _, _, HK6.out, HR6.out, HW6.out⟩
      · have hre := HRE.out
        rw [hd, if_pos rfl] at hre
        clear hd HRE
        subst hre
        go_wp2
        go_ret
        exact ⟨rfl, _, _, _, HK6.out, HR6.out, HW6.out⟩
    have hkm9 : k < m := by omega
    have hkm' : (k : Int) < (m : Int) := by omega
    have hkb : ((k : Int) == (m : Int)) = false := by simp; omega
    have hkb2 : ¬ (k : Int) = (m : Int) := by omega
    have HDN := hid (l7Done_any i ni ci is p ss.length cp ss h2 (by omega) (fun q hq => by have := hr2 q hq; have := HNI.out; omega) wr HIR.out HRP.out)
    by_cases hss : ss = []
    · subst hss
      have hre := HRR.out
      rw [rtGo_nil HX.out (by rw [HLX.out]; exact hkx) rfl] at hre
      rw [doneL_nil] at HDN
      clear HRR
      subst hre
      go_wp2_with fail
      refine HDN.out.mono ?_
      rintro e w6 ⟨rfl, hb6⟩
      have HK6 := hid (Blk.of HKk.out hb6)
      have HR6 := hid (RowN.mono (tabOk false) (RowN.below (tabOk false) HRr.out hb6) (Nat.le_refl _) hb6.size)
      have HW6 := hid (HWr.out.trans (hb6.mono HWr.out.size))
      clear hb6
      go_wp2
      go_ret
      exact ⟨rfl, _, _, _, HK6.out, HR6.out, HW6.out⟩
    have hslen : ¬ (ss.length : Int) = 0 := by
      have := List.length_pos_iff.2 hss
      omega
    have hslen2 : ((ss.length : Int) == 0) = false := by simp [hss]
    obtain ⟨f', rfl⟩ : ∃ f', f = f' + 1 := ⟨f - 1, by have := HF.out; omega⟩
    have hre := HRR.out
    rw [rtGo_go HX.out (by rw [HLX.out]; exact hkx) hss] at hre
    obtain ⟨bx, ox, rfl, hcx⟩ := hxt.at hkm9
    have ck0 := cell_later HWr.out (hcx k hkm9)
    have hdd := bytes_atR HBY.out (show k < text.length by have := HLX.out; omega)
    have hstep := HI.out.step hin (by have := HNI.out; omega) (s := s) (by have := (List.getElem?_eq_some_iff.1 HX.out).1; exact this) (text.getD k 0)
    have HST := hid (fun w' k1 k2 k3 => l8Step_any W0 i ni ci is lo B z (some ⟨g, o, none⟩) n' c' ts' s (text.getD k 0) M w' hdd.1 hdd.2 hin hsi h1 h2 hi k1 k2 k3 HI.out (by have := HM.out; omega) hsn)
    generalize text.getD k 0 = d at *
    obtain ⟨P, hP⟩ : ∃ P : Nat, goP is z ts' s d = (P : Int) := ⟨(goP is z ts' s d).toNat, by omega⟩
    rw [hP] at HST hstep hre
    generalize goS is z ts' s d = E at *
    rw [show ((P : Int)).toNat = P by simp] at hre
    have HSTEP := hid hstep
    have hwr : IntKind.i64.wrap ((k : Int) + 1) = (k : Int) + 1 := by rw [IntKind.wrap_i64]; omega
    obtain ⟨D, hD⟩ : ∃ D, D = doneL is ss := ⟨_, rfl⟩
    rw [← hD] at HDN hre
    have HRE := hid hre
    clear hD hre hstep hdd hcx HRR hP hr2 hr3
    cases D
    all_goals
      go_wp2_with fail
      refine HDN.out.mono ?_
      rintro e w6 ⟨rfl, hb6⟩
      have HK6 := hid (Blk.of HKk.out hb6)
      have HR6 := hid (RowN.mono (tabOk false) (RowN.below (tabOk false) HRr.out hb6) (Nat.le_refl _) hb6.size)
      have HW6 := hid (HWr.out.trans (hb6.mono HWr.out.size))
      have ck6 := cell_later hb6 ck0
      have hs6 : lo ≤ w6.heap.size := Nat.le_trans hlow hb6.size
      clear hb6
      go_wp2_with fail
      refine (HST.out w6 HW6.out HK6.out HR6.out hs6 hbl hbB).mono ?_
      rintro e w7 ⟨rfl, va7, n7, c7, hk7, hr7, hb7⟩
      have HK7 := hid hk7
      have HR7 := hid hr7
      have HW7 := hid hb7
      have hs7 : lo ≤ w7.heap.size := by
        rcases RowN.cases hr7 with ⟨-, e, e'⟩ | ⟨g, cap, e, h0, h0', h0''⟩
        · have := HSTEP.out.2.2; rw [e'] at this; simp at this; omega
        · omega
      have hl7 := RowN.len hr7
      have hP7 : P < n7 := by have := HSTEP.out.2.2; omega
      clear hk7 hr7 hb7
      go_wp2
      go_roundw
      case rel => exact ⟨k + 1, P, f', M + 1, _, E, va7, n7, c7, by go_num, rfl, rfl, by omega, hid (by have := HF.out; omega), hid (by have := HM.out; omega), hid HSTEP.out.1, hP7, (by first | exact HRE | (have := HRE.out; exact hid (by simpa using this))), HK7, HR7, hs7, HW7⟩
      case measure => simp [intOf]; omega
end Go.Proofs.YtlemdjgpkmjihaaGreat

namespace Go.Proofs.YtlemdjgpkmjihaaGreat
open Go.RowKit
set_option linter.unusedVariables false
set_option linter.unusedSimpArgs false

theorem wpList_wanted {P : Program} {ops : Array Oper} {rest : List Oper} {o : Oper} {a : Act} {w : World} {Q : Exit → Act → World → Prop} (hw : Region.wanted o (yielded ops a.tmps) = true) (h : o.wp P a w (wpList P ops Q rest) Q) : wpList P ops Q (o :: rest) a w := by
  unfold wpList
  rw [if_pos hw]
  exact .inl h

theorem wp_builtR {P : Program} {o : Oper} {a : Act} {w : World} {K : Act → World → Prop} {Q : Exit → Act → World → Prop} (t : TypeId) (parts : Array (Nat × Operand)) (ho : o.op = .build t parts) (A : Array Value)
    (hf : P.built t (parts.map fun (i, x) => (i, a.eval x)).toList = some A) (h : K (a.put o.dst (.agg A)) w) : o.wp P a w K Q := by
  have hr := run_build (P := P) w t (parts.map fun (i, x) => (i, a.eval x)) A hf
  unfold Oper.wp execOp
  simp only [ho, Sem.run_bind, hr, Result.andThen_ok, Sem.run_pure]
  exact h

theorem wpList_builtR {P : Program} {ops : Array Oper} {rest : List Oper} {o : Oper} {a : Act} {w : World} {Q : Exit → Act → World → Prop} (hg : o.guard = none) (t : TypeId) (parts : Array (Nat × Operand)) (ho : o.op = .build t parts) (A : Array Value)
    (hf : P.built t (parts.map fun (i, x) => (i, a.eval x)).toList = some A)
    (h : wpList P ops Q rest (a.put o.dst (.agg A)) w) : wpList P ops Q (o :: rest) a w :=
  wpList_build hg t parts ho (by rw [hf]; rfl) (by rw [hf]; exact h)

/-- Go's '==' at sets. -/
theorem eql80 {bs cs : List Bool} (hl : bs.length = 80) (hc : cs.length = 80) (w : World) :
    (binOp .eql 111 (.agg (boolsA bs)) (.agg (boolsA cs))).run Tryz.prog w = .ok (.bool (decide (bs = cs))) w := by
  obtain ⟨i, hi⟩ := infoB0
  have hce : Tryz.prog.cellsOf 4 = 1 := by kernel_rfl
  rw [run_eql_struct, show (10000 : Nat) = 9999 + 1 from rfl, run_equalIn_array w 9999 _ _ under80 hi, hce, show (9999 : Nat) = 9998 + 1 from rfl, eqItems80 hl hc w _ (fun i hi => by simpa using hi), all_eq hl hc]
  rfl

theorem Mem.setRowB {W0 w : World} {B b q : Nat} {z : Int} {pv v : Value} {ms : List Mt} {E : List Es} (h : Mem W0 w B b q z pv v ms E) {X : Nat} {cs A : Array Value} {t : TypeId} (hX : Blk w X cs t) (h1 : t ≠ 115) (h2 : t ≠ 99) (h3 : t ≠ 108) (h4 : t ≠ 34) (h0 : W0.heap.size ≤ X) : Mem W0 (w.setRow X A) B b q z pv v ms E := by
  have hg : w.grownBy (w.setRow X A) (some X) := ⟨rfl, rfl, rfl, by simp [World.setRow], fun k _ hk => setRow_other w X k A (fun e => hk (by rw [e]))⟩
  have hne : ∀ {k : Nat} {cs' : Array Value} {t' : TypeId}, Blk w k cs' t' → t ≠ t' → k ≠ X := fun hk ht e => by
    subst e
    have e1 := hk
    have e2 := hX
    unfold Blk at e1 e2
    rw [e1] at e2
    simp at e2
    exact ht e2.2.symm
  refine ⟨(setRow_other w X B A (hne h.blk h3)).trans h.blk, ?_, h.map.kept hg (fun e => OwnP.ne_blk h.map hX (by simpa using e)), (setRow_other w X q A (hne h.step h4)).trans h.step, h.hB, h.hq, h.hb, below_setRow h.below h0 _⟩
  exact (RowM.other h.rows (blk_no hX h1) (blk_no hX h2) hg).top

set_option maxHeartbeats 6400000 in
set_option maxRecDepth 20000 in
theorem lastDoneT_any (W0 w : World) (B b q : Nat) (z : Int) (i_ : Option Addr) (ni ci : Nat) (is : List In) (v : Value) (ts : List St) (x : Option Addr) (m cx : Nat) (text : List Int) (at_ : Nat) (hin : Inside is) (h1 : 1 ≤ ni) (h2 : ni ≤ 80) (hm4 : m ≤ 400) (hat : at_ ≤ m) (hBy : Bytes text)
    (hi : RdR inE 8 W0 i_ ni is) (hxt : Rd .u8 W0 x m text) (h : Mem W0 w B b q z (.slice i_ ni ci) v (ts.map mtOf) (entsFrom 0 (ts.map mtOf))) (hI : TabI is.length z 256 ts) :
    Calls Tryz.prog 44 #[.pointer (some ⟨B, 0, none⟩), .slice i_ ni ci, .slice x m cx, .int .i64 (at_ : Int)] w fun e w' => e = .returned (.int .i64 (rtAll is z ts text at_).1) ∧ ∃ v', Mem W0 w' B b q z (.slice i_ ni ci) v' ((rtAll is z ts text at_).2.map mtOf) (entsFrom 0 ((rtAll is z ts text at_).2.map mtOf)) := by
  have hni := hi.1
  have hlx := hxt.1
  obtain ⟨r1, r2, r3, r4⟩ := rt0_ok hin (by omega) (by omega) (decide (at_ = 0))
  obtain ⟨e1, e2, -⟩ := hI.enter r1 r2 r3
  obtain ⟨R, hR⟩ : ∃ R, R = rtAll is z ts text at_ := ⟨_, rfl⟩
  rw [← hR]
  unfold rtAll at hR
  rw [hlx] at hR
  obtain ⟨B0, hB0⟩ : ∃ B, B = decide (at_ = 0) := ⟨_, rfl⟩
  have hB1 : ((at_ : Int) == 0) = B0 := by rw [hB0, Bool.eq_iff_iff]; simp
  have hB2 : decide ((at_ : Int) = 0) = B0 := by rw [hB0, decide_eq_decide]; omega
  rw [← hB0] at r1 r2 r3 r4 e1 e2 hR
  obtain ⟨q1, q2, q3, q4⟩ := first_eq hin (by omega) (by omega) B0 false
  have HC0 := hid (fun w' h' => closed_any i_ ni ci is B0 false hin h2 first80 w' first80_len (by rw [hni] at q2; exact q2) h')
  rw [r4] at HC0
  have HEN := hid (fun w' h' => enterT_any W0 w' B b q z (.slice i_ ni ci) v is.length 256 ts (rt0 is B0) h' hI (by omega) r1 r2)
  have HBY := hid hBy
  have HLX := hid hlx
  have HNI := hid hni
  generalize rt0 is B0 = X0 at *
  generalize entS z ts X0 = E0 at *
  obtain ⟨P0, hP0⟩ : ∃ P : Nat, entP z ts X0 = (P : Int) := ⟨(entP z ts X0).toNat, by omega⟩
  rw [hP0] at HEN e2 hR
  generalize entG z ts X0 = G0 at *
  have HR0 : Hid (rtGo is z text (m - at_ + 1) at_ E0 P0 (-1) = R) := hid (by rw [hR]; simp)
  have HE1 := hid e1
  have HP0 : Hid (P0 < E0.length) := hid (by omega)
  have HM := hid h
  obtain ⟨Z, hZ⟩ : ∃ Z, Z = boolsA (List.replicate 80 false) := ⟨_, rfl⟩
  have hzv := zero80
  rw [← hZ] at hzv
  have HZS : Hid (Z.size = 80) := by rw [hZ]; exact size_set80 (by simp)
  have HB0 : Hid (Tryz.prog.built 111 [] = some Z) := by rw [hZ]; exact built0
  have HZ := hid hZ
  obtain ⟨F, hF⟩ : ∃ F, F = boolsA first80 := ⟨_, rfl⟩
  have HB1 : Hid (Tryz.prog.built 111 [(0, Value.bool true)] = some F) := by rw [hF]; exact built1
  rw [← hF] at HC0
  clear hR hB0 r1 r2 r3 r4 e1 e2 q1 q2 q3 q4 hBy hlx hP0 hni h hI hZ hF
  go_enter Tryz.func44, Tryz.ntmps44
  go_wp2_with ((with_reducible show wpList _ _ _ (({ dst := _, op := .build 111 _, type := _, pos := _, after := _, guard := _ } : Oper) :: _) _ _); refine wpList_builtR rfl _ _ rfl (F) (by first | exact Eq.trans (by kernel_rfl) HB1.out | (simp [Act.eval]; exact HB1.out)) ?_)
  refine (HC0.out _ (hi.below HM.out.below)).mono ?_
  rintro r w1 ⟨rfl, hb1⟩
  have HM1 := hid (HM.out.later hb1)
  clear hb1 HM
  go_wp2_with fail
  refine (HEN.out w1 HM1.out).mono ?_
  rintro r w3 ⟨rfl, v3, hm3⟩
  have HM3 := hid hm3
  clear hm3 HM1
  go_wp2
  go_loopw [10, 11, 13] (fun o st i wr => ∃ (k s f M : Nat) (out : Int) (ts' : List St) (v' : Value), i = .int .i64 k ∧ st = .int .i64 s ∧ o = .int .i64 out ∧ k ≤ m ∧ Hid (f + k = m) ∧ Hid (M + f ≤ 656) ∧ Hid (TabI is.length z M ts') ∧ s < ts'.length ∧ Hid (rtGo is z text (f + 1) k ts' s out = R) ∧ Hid (Mem W0 wr B b q z (.slice i_ ni ci) v' (ts'.map mtOf) (entsFrom 0 (ts'.map mtOf)))) (fun _ _ i _ => m + 1 - (intOf i).toNat)
  case atStart => exact ⟨at_, P0, m - at_, 256, -1, E0, v3, rfl, rfl, rfl, hat, hid (by omega), hid (by omega), HE1, HP0.out, HR0, HM3⟩
  case round =>
    obtain ⟨k, s, f, M, out, ts', v', rfl, rfl, rfl, hkm, HF, HMM, HI, hsn, HRR, HMk⟩ := hrel
    clear HR0 HM3
    have hx : ts'[s]? = some ts'[s] := List.getElem?_eq_getElem hsn
    have hxm : ts'[s] ∈ ts' := List.getElem_mem hsn
    have hr1 := HI.out.rise _ hxm
    have hr2 := HI.out.inn _ hxm
    obtain ⟨x0, hx0⟩ : ∃ x0, x0 = ts'[s] := ⟨_, rfl⟩
    rw [← hx0] at hx hr1 hr2
    clear hxm hx0
    obtain ⟨ss, az⟩ := x0
    simp only at hr1 hr2
    obtain ⟨g, vc, ra, rc, e0, hc, -, -, -⟩ := HMk.out.at (j := s) (x := mtOf (ss, az)) (by simp [hx])
    obtain ⟨n', hn'⟩ : ∃ n', n' = (ts'.map mtOf).length := ⟨_, rfl⟩
    rw [← hn'] at e0
    subst e0
    have hsn' : (s : Int) < (n' : Int) := by rw [hn', List.length_map]; omega
    have c1 : wr.cell? ⟨B, 1, none⟩ = some (.slice (some ⟨g, 0, none⟩) n' vc) := HMk.out.blk.cell 1
    have HC80 := hid (mtC_at hc)
    have HX := hid hx
    have HBS : Hid (((markB ss).map Value.bool).toArray.size = 80) := hid (by simp [markB_len])
    have HZB := hid (Blk.new wr Z 111)
    have HO : Hid (((markB ss).map Value.bool).toArray.all (·.oneCell') = true) := hid (boolsA_one (markB ss))
    have HX2 := hid (HZB.out.setRow ((markB ss).map Value.bool).toArray)
    have hb2 : Below wr.heap.size wr ((wr.alloc (.cells Z 111)).setRow wr.heap.size ((markB ss).map Value.bool).toArray) := below_setRow ((Below.refl _ _).alloc (Nat.le_refl _) _) (Nat.le_refl _) _
    have HM2 := hid (HMk.out.later hb2)
    have hbn := below_markB (n := is.length) (by have := HNI.out; omega) hr2
    have hback := markB_back hr1 (fun x h => by have := hr2 x h; have := HNI.out; omega)
    have hpt : placesTo (markB ss) is.length = ss := by rw [placesTo_full hbn (by rw [markB_len]; have := HNI.out; omega), hback]
    rw [HNI.out] at hpt hbn
    clear hc hx hb2 hn'
    by_cases hkx : k = m
    · subst hkx
      obtain ⟨b0, hb0⟩ : ∃ B, B = decide (k = 0) := ⟨_, rfl⟩
      have hk1 : ((k : Int) == 0) = b0 := by rw [hb0, Bool.eq_iff_iff]; simp
      have hk2 : decide ((k : Int) = 0) = b0 := by rw [hb0, decide_eq_decide]; omega
      have hre := HRR.out
      rw [rtGo_end HX.out HLX.out.symm, ← hb0] at hre
      have HCC := hid (fun w' h' => closed_any i_ ni ci is b0 true hin h2 (markB ss) w' (markB_len ss) hbn h')
      rw [hback] at HCC
      have hp9 : ∀ p ∈ ss, p.toNat < is.length := fun p hp => by have := hr2 p hp; omega
      have hc80 : (closeI is b0 true ss).length = 80 := dfsAll_len (goes_of hin b0 true).1 80 (by have := HNI.out; omega) (Nat.le_refl _) _ (by simp) ss hp9
      have hcb : BelowN (closeI is b0 true ss) is.length := (dfsAll_least (goes_of hin b0 true).1 80 (by have := HNI.out; omega) (Nat.le_refl _) ss hp9).lt (goes_of hin b0 true).1 hp9
      have heq := close_eq hin (by have := HNI.out; omega) b0 true (ps := ss) (qs := ss) (fun p => Iff.rfl) hp9
      have HDN := hid (fun w' h' => isDone_any i_ ni ci is h2 (closeI is b0 true ss) w' hc80 h')
      have hpt2 : placesTo (closeI is b0 true ss) ni = placesOf (closeS is b0 true ss) := by rw [← heq, ← HNI.out, placesTo_full hcb (by rw [hc80]; have := HNI.out; omega)]
      rw [hpt2] at HDN
      obtain ⟨A5, hA5⟩ : ∃ A, A = boolsA (closeI is b0 true ss) := ⟨_, rfl⟩
      have HS5 : Hid (A5.size = 80) := by rw [hA5]; exact size_set80 hc80
      have HO5 : Hid (A5.all (·.oneCell') = true) := by rw [hA5]; exact boolsA_one _
      rw [← hA5] at HCC HDN
      generalize placesOf (closeS is b0 true ss) = C at *
      have HRE := hid hre
      clear hb0 hre hp9 hc80 hcb heq hpt2 hA5 HRR hr1 hr2 hbn hback hpt
      go_wp2_with (first | ((with_reducible show wpList _ _ _ (({ dst := _, op := .load 111 _, type := _, pos := _, after := _, guard := _ } : Oper) :: _) _ _); refine wpList_load_at rfl 111 _ rfl g (s * 81) rfl ((markB ss).map Value.bool) _ HC80.out under80 rfl (sizeS (markB_len ss)) ?_) | ((with_reducible show wpList _ _ _ (({ dst := _, op := .load 111 _, type := _, pos := _, after := _, guard := _ } : Oper) :: _) _ _); refine wpList_load_row rfl 111 _ rfl wr.heap.size rfl 111 (((markB ss).map Value.bool).toArray) (0, 0) _ HX2.out under80 rfl (size80 HBS.out) ?_) | ((with_reducible show wpList _ _ _ (({ dst := _, op := .store 111 _ _, type := _, pos := _, after := _, guard := _ } : Oper) :: _) _ _); refine wpList_store_row rfl 111 _ _ rfl wr.heap.size (((markB ss).map Value.bool).toArray) rfl rfl 111 Z HZB.out (size80 HBS.out) (HZS.out.trans HBS.out.symm) HO.out ?_))
      refine (HCC.out _ (hi.below HM2.out.below)).mono ?_
      rintro r w5 ⟨rfl, hb5⟩
      have HX5 := hid (HX2.out.below hb5)
      have HM5 := hid (HM2.out.later hb5)
      have hXw : wr.heap.size ≤ w5.heap.size := by have := hb5.size; simp [World.setRow] at this; omega
      have HX6 := hid (HX5.out.setRow A5)
      have HX6b : Hid (Blk (w5.setRow wr.heap.size A5) wr.heap.size A5 111) := hid (by have := HX6.out; exact this)
      have HM6 := hid (HM5.out.setRowB (A := A5) HX5.out (by decide) (by decide) (by decide) (by decide) (by have := HMk.out.below.size; omega))
      clear hb5
      go_wp2_with (first | ((with_reducible show wpList _ _ _ (({ dst := _, op := .load 111 _, type := _, pos := _, after := _, guard := _ } : Oper) :: _) _ _); refine wpList_load_row rfl 111 _ rfl wr.heap.size rfl 111 A5 (0, 0) _ HX6b.out under80 rfl (size80 HS5.out) ?_) | ((with_reducible show wpList _ _ _ (({ dst := _, op := .store 111 _ _, type := _, pos := _, after := _, guard := _ } : Oper) :: _) _ _); refine wpList_store_row rfl 111 _ _ rfl wr.heap.size A5 rfl rfl 111 (((markB ss).map Value.bool).toArray) HX5.out (size80 HS5.out) (HBS.out.trans HS5.out.symm) HO5.out ?_))
      refine (HDN.out _ (hi.below HM6.out.below)).mono ?_
      rintro r w7 ⟨rfl, hb7⟩
      have HM7 := hid (HM6.out.later hb7)
      clear hb7
      cases hd : doneL is C
      · have hre := HRE.out
        rw [hd, if_neg (by simp)] at hre
        clear hd HRE
        subst hre
        go_wp2
        go_ret
        exact ⟨rfl, _, HM7.out⟩
      · have hre := HRE.out
        rw [hd, if_pos rfl] at hre
        clear hd HRE
        subst hre
        go_wp2
        go_ret
        exact ⟨rfl, _, HM7.out⟩
    have hkm9 : k < m := by omega
    have hkm' : (k : Int) < (m : Int) := by omega
    have hkb : ((k : Int) == (m : Int)) = false := by simp; omega
    have hkb2 : ¬ (k : Int) = (m : Int) := by omega
    have HDN := hid (fun w' h' => isDone_any i_ ni ci is h2 (markB ss) w' (markB_len ss) h')
    rw [hpt] at HDN
    have heq : ∀ w', (binOp .eql 111 (.agg ((markB ss).map Value.bool).toArray) (.agg Z)).run Tryz.prog w' = .ok (.bool (decide (markB ss = List.replicate 80 false))) w' := fun w' => by rw [HZ.out]; exact eql80 (markB_len ss) (by simp) w'
    have hgd := guard80
    have hne2 := boolsA_ne (markB_len ss)
    rw [hback] at hne2
    by_cases hss : ss = []
    · have hdc : decide (markB ss = List.replicate 80 false) = true := by
        rw [decide_eq_true_eq]
        exact Decidable.byContradiction fun q => hne2.1 q hss
      rw [hdc] at heq
      have hre := HRR.out
      rw [rtGo_nil HX.out (by rw [HLX.out]; exact hkx) hss] at hre
      have HDN2 : Hid (∀ w', RdR inE 8 w' i_ ni is → Calls Tryz.prog 76 #[.agg ((markB ss).map Value.bool).toArray, .slice i_ ni ci] w' fun r w'' => r = .returned (.bool false) ∧ Below w'.heap.size w' w'') := hid (fun w' h' => by have := HDN.out w' h'; rw [hss, doneL_nil] at this; rw [hss]; exact this)
      clear hss hdc hne2 hback hpt hbn hr1 hr2 HRR HDN
      subst hre
      go_wp2_with (first | ((with_reducible show wpList _ _ _ (({ dst := _, op := .load 111 _, type := _, pos := _, after := _, guard := _ } : Oper) :: _) _ _); refine wpList_load_at rfl 111 _ rfl g (s * 81) rfl ((markB ss).map Value.bool) _ HC80.out under80 rfl (sizeS (markB_len ss)) ?_) | ((with_reducible show wpList _ _ _ (({ dst := _, op := .load 111 _, type := _, pos := _, after := _, guard := _ } : Oper) :: _) _ _); refine wpList_load_row rfl 111 _ rfl wr.heap.size rfl 111 (((markB ss).map Value.bool).toArray) (0, 0) _ HX2.out under80 rfl (size80 HBS.out) ?_) | ((with_reducible show wpList _ _ _ (({ dst := _, op := .store 111 _ _, type := _, pos := _, after := _, guard := _ } : Oper) :: _) _ _); refine wpList_store_row rfl 111 _ _ rfl wr.heap.size (((markB ss).map Value.bool).toArray) rfl rfl 111 Z HZB.out (size80 HBS.out) (HZS.out.trans HBS.out.symm) HO.out ?_))
      refine (HDN2.out _ (hi.below HM2.out.below)).mono ?_
      rintro r w5 ⟨rfl, hb5⟩
      have HX5 := hid (HX2.out.below hb5)
      have HM5 := hid (HM2.out.later hb5)
      clear hb5
      go_wp2_with (first | ((with_reducible show wpList _ _ _ (({ dst := _, op := .load 111 _, type := _, pos := _, after := _, guard := _ } : Oper) :: _) _ _); refine wpList_wanted (by first | rfl | kernel_rfl | simp) (wp_load_row 111 _ rfl wr.heap.size rfl 111 (((markB ss).map Value.bool).toArray) (0, 0) _ HX5.out under80 rfl (size80 HBS.out) ?_)) | ((with_reducible show wpList _ _ _ (({ dst := _, op := .build 111 _, type := _, pos := _, after := _, guard := _ } : Oper) :: _) _ _); refine wpList_wanted (by first | rfl | kernel_rfl | simp) (wp_builtR _ _ rfl Z (by first | exact Eq.trans (by kernel_rfl) HB0.out | (simp [Act.eval]; exact HB0.out)) ?_)))
      go_ret
      exact ⟨rfl, _, HM5.out⟩
    have hdc : decide (markB ss = List.replicate 80 false) = false := by
      rw [decide_eq_false_iff_not]
      exact hne2.2 hss
    rw [hdc] at heq
    obtain ⟨f', rfl⟩ : ∃ f', f = f' + 1 := ⟨f - 1, by have := HF.out; omega⟩
    have hre := HRR.out
    rw [rtGo_go HX.out (by rw [HLX.out]; exact hkx) hss] at hre
    obtain ⟨bx, ox, rfl, hcx⟩ := hxt.at hkm9
    have ck0 := hcx k hkm9
    have hdd := bytes_atR HBY.out (show k < text.length by have := HLX.out; omega)
    have hstep := HI.out.step hin (by have := HNI.out; omega) (s := s) hsn (text.getD k 0)
    have HST := hid (fun w' v' h' => goOver_any W0 w' B b q z i_ ni ci is v' ts' s (text.getD k 0) M hi hin h2 hdd.1 hdd.2 h' HI.out (by have := HMM.out; omega) hsn)
    generalize text.getD k 0 = d at *
    obtain ⟨P, hP⟩ : ∃ P : Nat, goP is z ts' s d = (P : Int) := ⟨(goP is z ts' s d).toNat, by omega⟩
    rw [hP] at HST hstep hre
    generalize goS is z ts' s d = E at *
    rw [show ((P : Int)).toNat = P by simp] at hre
    have HSTEP := hid hstep
    have hwr : IntKind.i64.wrap ((k : Int) + 1) = (k : Int) + 1 := by rw [IntKind.wrap_i64]; omega
    obtain ⟨D, hD⟩ : ∃ D, D = doneL is ss := ⟨_, rfl⟩
    rw [← hD] at HDN hre
    have HRE := hid hre
    clear hD hre hstep hdd hcx HRR hP hr2 hr1 hss hdc hne2 hback hpt hbn
    cases D
    all_goals
      go_wp2_with (first | ((with_reducible show wpList _ _ _ (({ dst := _, op := .load 111 _, type := _, pos := _, after := _, guard := _ } : Oper) :: _) _ _); refine wpList_load_at rfl 111 _ rfl g (s * 81) rfl ((markB ss).map Value.bool) _ HC80.out under80 rfl (sizeS (markB_len ss)) ?_) | ((with_reducible show wpList _ _ _ (({ dst := _, op := .load 111 _, type := _, pos := _, after := _, guard := _ } : Oper) :: _) _ _); refine wpList_load_row rfl 111 _ rfl wr.heap.size rfl 111 (((markB ss).map Value.bool).toArray) (0, 0) _ HX2.out under80 rfl (size80 HBS.out) ?_) | ((with_reducible show wpList _ _ _ (({ dst := _, op := .store 111 _ _, type := _, pos := _, after := _, guard := _ } : Oper) :: _) _ _); refine wpList_store_row rfl 111 _ _ rfl wr.heap.size (((markB ss).map Value.bool).toArray) rfl rfl 111 Z HZB.out (size80 HBS.out) (HZS.out.trans HBS.out.symm) HO.out ?_))
      refine (HDN.out _ (hi.below HM2.out.below)).mono ?_
      rintro r w5 ⟨rfl, hb5⟩
      have HX5 := hid (HX2.out.below hb5)
      have HM5 := hid (HM2.out.later hb5)
      have ck5 := cell_later HM5.out.below ck0
      clear hb5
      go_wp2_with (first | ((with_reducible show wpList _ _ _ (({ dst := _, op := .load 111 _, type := _, pos := _, after := _, guard := _ } : Oper) :: _) _ _); refine wpList_wanted (by first | rfl | kernel_rfl | simp) (wp_load_row 111 _ rfl wr.heap.size rfl 111 (((markB ss).map Value.bool).toArray) (0, 0) _ HX5.out under80 rfl (size80 HBS.out) ?_)) | ((with_reducible show wpList _ _ _ (({ dst := _, op := .build 111 _, type := _, pos := _, after := _, guard := _ } : Oper) :: _) _ _); refine wpList_wanted (by first | rfl | kernel_rfl | simp) (wp_builtR _ _ rfl Z (by first | exact Eq.trans (by kernel_rfl) HB0.out | (simp [Act.eval]; exact HB0.out)) ?_)))
      refine (HST.out w5 _ HM5.out).mono ?_
      rintro r w7 ⟨rfl, v7, hm7⟩
      have HM7 := hid hm7
      clear hm7
      go_wp2
      go_roundw
      case rel => exact ⟨k + 1, P, f', M + 1, _, E, v7, by go_num, rfl, rfl, by omega, hid (by have := HF.out; omega), hid (by have := HMM.out; omega), hid HSTEP.out.1, (by have := HSTEP.out.2.2; omega), (by first | exact HRE | (have := HRE.out; exact hid (by simpa using this))), HM7⟩
      case measure => simp [intOf]; omega
end Go.Proofs.YtlemdjgpkmjihaaGreat

namespace Go.Proofs.YtlemdjgpkmjihaaGreat
open Go.RowKit
set_option linter.unusedVariables false
set_option linter.unusedSimpArgs false

set_option maxHeartbeats 1600000 in
theorem l7Asked_any (a : Option Addr) (n ca : Nat) (is : List In) (x : Option Addr) (m cx : Nat) (xs : List Int) (z : Int) (hs : inSum is ≤ 1048576) (h1 : n ≤ 1048576) (h2 : m ≤ 1048576) (hlx : xs.length = m) : ∀ w', RdR inE 8 w' a n is → Calls Tryz.prog 42 #[.slice a n ca, .slice x m cx, .int .i64 z] w' fun r w'' => r = .returned (.int .i64 (if progFault is ≠ 0 then progFault is else if 400 < xs.length then 2 else if ¬ (0 ≤ z ∧ z ≤ xs.length) then 3 else 0)) ∧ Below w'.heap.size w' w'' := by
  have CP := fun w' h' => l7Fault_any a n ca is w' h' hs h1
  intro w' h'
  have CP' := CP w' h'
  by_cases hp : progFault is = 0
  case neg =>
    rw [if_pos hp]
    generalize progFault is = P at *
    have hp' : (P == 0) = false := by simpa using hp
    have HP : Hid _ := CP'
    clear CP CP' hlx
    go_enter Tryz.func42, Tryz.ntmps42
    go_wp2_with fail
    refine Calls.mono HP.out ?_
    rintro r w1 ⟨rfl, hb1⟩
    go_wp2
    go_ret
    exact ⟨rfl, hb1⟩
  rw [if_neg (by simp [hp])]
  rw [hp] at CP'
  have HP : Hid _ := CP'
  clear CP CP' hp
  by_cases h4 : 400 < m
  · rw [if_pos (by omega)]
    have h4' : (400 : Int) < (m : Int) := by omega
    clear hlx
    go_enter Tryz.func42, Tryz.ntmps42
    go_wp2_with fail
    refine Calls.mono HP.out ?_
    rintro r w1 ⟨rfl, hb1⟩
    go_wp2
    go_ret
    exact ⟨rfl, hb1⟩
  have h4' : ¬ (400 : Int) < (m : Int) := by omega
  rw [if_neg (by omega)]
  by_cases hz : 0 ≤ z ∧ z ≤ (m : Int)
  · rw [if_neg (by omega)]
    have CI : Hid _ := fun w' => in5_is z 0 (m : Int) true w' (by simpa using hz)
    clear hlx hz
    go_enter Tryz.func42, Tryz.ntmps42
    go_wp2_with fail
    refine Calls.mono HP.out ?_
    rintro r w1 ⟨rfl, hb1⟩
    go_wp2_with fail
    refine (CI.out _).mono ?_
    rintro r w2 ⟨rfl, hw2⟩
    have hw3 := hw2.symm
    subst hw3
    clear hw2
    go_wp2
    go_ret
    exact ⟨rfl, hb1⟩
  · rw [if_pos (by omega)]
    have CI : Hid _ := fun w' => in5_is z 0 (m : Int) false w' (by simpa using hz)
    clear hlx hz
    go_enter Tryz.func42, Tryz.ntmps42
    go_wp2_with fail
    refine Calls.mono HP.out ?_
    rintro r w1 ⟨rfl, hb1⟩
    go_wp2_with fail
    refine (CI.out _).mono ?_
    rintro r w2 ⟨rfl, hw2⟩
    have hw3 := hw2.symm
    subst hw3
    clear hw2
    go_wp2
    go_ret
    exact ⟨rfl, hb1⟩

set_option maxHeartbeats 3200000 in
set_option maxRecDepth 20000 in
theorem implRunTable_any (i : Option Addr) (ni ci : Nat) (cs : List In) (z : Int) (a : Option Addr) (n ca : Nat) (ts : List St) (x : Option Addr) (m cx : Nat) (text : List Int) (I : Int) (w : World) (hi : RdR inE 8 w i ni cs) (hsi : inSum cs ≤ 1048576) (hni : ni ≤ 1048576) (ht : RdT w a n ts) (hs : (n : Int) + stN ts ≤ 1048576) (hca : n ≤ ca) (hmx : ca ≤ maxLen)
    (hx : Rd .u8 w x m text) (hB : Bytes text) (hm : m ≤ 1048576) :
    Calls Tryz.prog 20 #[.slice i ni ci, .agg #[.int .i64 z, .slice a n ca], .slice x m cx, .int .i64 I] w fun e w' => ∃ v, e = .returned (.agg #[.int .i64 (rtCode cs z ts text I), .int .i64 (rtVal cs z ts text I), .int .i64 (rtSize cs z ts text I), v]) ∧ TabR true w' w.heap.size w'.heap.size v (rtRows cs z ts text I).length (rtRows cs z ts text I) ∧ Below w.heap.size w w' := by
  have B1 : ∀ o1 o2, Below w.heap.size w ((w.alloc o1).alloc o2) := fun o1 o2 => ((Below.refl _ _).alloc (Nat.le_refl _) o1).alloc (by simp) o2
  have HCF := hid (fun w' h1 h2 => implTableFault_any i ni ci cs z a n ca ts w' h1 hsi hni h2 hs hca hmx)
  clear hmx
  by_cases hf : tabF cs z ts = 0
  case neg =>
    have e1 : rtCode cs z ts text I = tabF cs z ts := by rw [rtCode, if_pos hf]
    have e2 : rtVal cs z ts text I = 0 := by rw [rtVal, e1, if_neg hf]
    have e3 : rtSize cs z ts text I = 0 := by rw [rtSize, e1, if_neg hf]
    have e4 : rtRows cs z ts text I = [] := by rw [rtRows, e1, if_neg hf]
    rw [e1, e2, e3, e4]
    generalize tabF cs z ts = T at *
    have hf' : (T == 0) = false := by simpa using hf
    clear e1 e2 e3 e4 hf
    go_enter Tryz.func20, Tryz.ntmps20
    go_wp2_with fail
    refine (HCF.out _ (hi.below (B1 _ _)) (ht.below (B1 _ _))).mono ?_
    rintro e w1 ⟨rfl, hb1⟩
    have hb01 : Below w.heap.size w w1 := (B1 _ _).trans (hb1.mono (by simp; omega))
    have rb : Blk w1 (w.heap.size + 1) #[.int .i64 0, .int .i64 0, .int .i64 0, .slice none 0 0] 32 := Blk.of (Blk.new1 w _ _ _) hb1
    have d0 := rb.cell 0
    have d1 := rb.cell 1
    have d2 := rb.cell 2
    have d3 := rb.cell 3
    have df0 := rb.frozen 0
    have df1 := rb.frozen 1
    have df2 := rb.frozen 2
    have df3 := rb.frozen 3
    simp only [List.getElem?_toArray, List.getElem?_cons_zero, List.getElem?_cons_succ] at d0 d1 d2 d3
    clear rb hb1
    go_wp2
    refine bodyPost_ret (v := .agg #[.int .i64 T, .int .i64 0, .int .i64 0, .slice none 0 0]) (by simp [results, Tryz.results20, go_sem, d0, d1, d2, d3]) rfl ⟨_, rfl, TabR.nil _ _ _ _, ?_⟩
    repeat first | exact hb01 | refine Below.setCell ?_ (by first | exact Nat.le_refl _ | omega | (simp; done) | (show w.heap.size ≤ w.heap.size + 1; omega)) _
  have hln := ht.len
  have hlx := hx.1
  by_cases h400 : 400 < m
  case pos =>
    have h4' : (400 : Int) < (m : Int) := by omega
    have e1 : rtCode cs z ts text I = 2 := by rw [rtCode, if_neg (by simpa using hf), if_pos (by omega)]
    have e2 : rtVal cs z ts text I = 0 := by rw [rtVal, e1, if_neg (by omega)]
    have e3 : rtSize cs z ts text I = 0 := by rw [rtSize, e1, if_neg (by omega)]
    have e4 : rtRows cs z ts text I = [] := by rw [rtRows, e1, if_neg (by omega)]
    rw [e1, e2, e3, e4]
    rw [hf] at HCF
    clear e1 e2 e3 e4 hf
    go_enter Tryz.func20, Tryz.ntmps20
    go_wp2_with fail
    refine (HCF.out _ (hi.below (B1 _ _)) (ht.below (B1 _ _))).mono ?_
    rintro e w1 ⟨rfl, hb1⟩
    have hb01 : Below w.heap.size w w1 := (B1 _ _).trans (hb1.mono (by simp; omega))
    have rb : Blk w1 (w.heap.size + 1) #[.int .i64 0, .int .i64 0, .int .i64 0, .slice none 0 0] 32 := Blk.of (Blk.new1 w _ _ _) hb1
    have d0 := rb.cell 0
    have d1 := rb.cell 1
    have d2 := rb.cell 2
    have d3 := rb.cell 3
    have df0 := rb.frozen 0
    have df1 := rb.frozen 1
    have df2 := rb.frozen 2
    have df3 := rb.frozen 3
    have c1 : w1.cell? ⟨w.heap.size, 1, none⟩ = some (.slice a n ca) := by have := (Blk.of ((Blk.new w _ _).alloc _) hb1 : Blk w1 w.heap.size #[.int .i64 z, .slice a n ca] 30).cell 1; simpa using this
    simp only [List.getElem?_toArray, List.getElem?_cons_zero, List.getElem?_cons_succ] at d0 d1 d2 d3
    clear rb hb1
    go_wp2
    refine bodyPost_ret (v := .agg #[.int .i64 2, .int .i64 0, .int .i64 0, .slice none 0 0]) (by simp [results, Tryz.results20, go_sem, d0, d1, d2, d3]) rfl ⟨_, rfl, TabR.nil _ _ _ _, ?_⟩
    repeat first | exact hb01 | refine Below.setCell ?_ (by first | exact Nat.le_refl _ | omega | (simp; done) | (show w.heap.size ≤ w.heap.size + 1; omega)) _
  have h4' : ¬ (400 : Int) < (m : Int) := by omega
  by_cases hI0 : I < 0
  case pos =>
    have e1 : rtCode cs z ts text I = 3 := by rw [rtCode, if_neg (by simpa using hf), if_neg (by omega), if_pos (by omega)]
    have e2 : rtVal cs z ts text I = 0 := by rw [rtVal, e1, if_neg (by omega)]
    have e3 : rtSize cs z ts text I = 0 := by rw [rtSize, e1, if_neg (by omega)]
    have e4 : rtRows cs z ts text I = [] := by rw [rtRows, e1, if_neg (by omega)]
    rw [e1, e2, e3, e4]
    rw [hf] at HCF
    clear e1 e2 e3 e4 hf
    go_enter Tryz.func20, Tryz.ntmps20
    go_wp2_with fail
    refine (HCF.out _ (hi.below (B1 _ _)) (ht.below (B1 _ _))).mono ?_
    rintro e w1 ⟨rfl, hb1⟩
    have hb01 : Below w.heap.size w w1 := (B1 _ _).trans (hb1.mono (by simp; omega))
    have rb : Blk w1 (w.heap.size + 1) #[.int .i64 0, .int .i64 0, .int .i64 0, .slice none 0 0] 32 := Blk.of (Blk.new1 w _ _ _) hb1
    have d0 := rb.cell 0
    have d1 := rb.cell 1
    have d2 := rb.cell 2
    have d3 := rb.cell 3
    have df0 := rb.frozen 0
    have df1 := rb.frozen 1
    have df2 := rb.frozen 2
    have df3 := rb.frozen 3
    have c1 : w1.cell? ⟨w.heap.size, 1, none⟩ = some (.slice a n ca) := by have := (Blk.of ((Blk.new w _ _).alloc _) hb1 : Blk w1 w.heap.size #[.int .i64 z, .slice a n ca] 30).cell 1; simpa using this
    simp only [List.getElem?_toArray, List.getElem?_cons_zero, List.getElem?_cons_succ] at d0 d1 d2 d3
    clear rb hb1
    go_wp2
    refine bodyPost_ret (v := .agg #[.int .i64 3, .int .i64 0, .int .i64 0, .slice none 0 0]) (by simp [results, Tryz.results20, go_sem, d0, d1, d2, d3]) rfl ⟨_, rfl, TabR.nil _ _ _ _, ?_⟩
    repeat first | exact hb01 | refine Below.setCell ?_ (by first | exact Nat.le_refl _ | omega | (simp; done) | (show w.heap.size ≤ w.heap.size + 1; omega)) _
  by_cases hIn : (m : Int) < I
  case pos =>
    have e1 : rtCode cs z ts text I = 3 := by rw [rtCode, if_neg (by simpa using hf), if_neg (by omega), if_pos (by omega)]
    have e2 : rtVal cs z ts text I = 0 := by rw [rtVal, e1, if_neg (by omega)]
    have e3 : rtSize cs z ts text I = 0 := by rw [rtSize, e1, if_neg (by omega)]
    have e4 : rtRows cs z ts text I = [] := by rw [rtRows, e1, if_neg (by omega)]
    rw [e1, e2, e3, e4]
    rw [hf] at HCF
    clear e1 e2 e3 e4 hf
    go_enter Tryz.func20, Tryz.ntmps20
    go_wp2_with fail
    refine (HCF.out _ (hi.below (B1 _ _)) (ht.below (B1 _ _))).mono ?_
    rintro e w1 ⟨rfl, hb1⟩
    have hb01 : Below w.heap.size w w1 := (B1 _ _).trans (hb1.mono (by simp; omega))
    have rb : Blk w1 (w.heap.size + 1) #[.int .i64 0, .int .i64 0, .int .i64 0, .slice none 0 0] 32 := Blk.of (Blk.new1 w _ _ _) hb1
    have d0 := rb.cell 0
    have d1 := rb.cell 1
    have d2 := rb.cell 2
    have d3 := rb.cell 3
    have df0 := rb.frozen 0
    have df1 := rb.frozen 1
    have df2 := rb.frozen 2
    have df3 := rb.frozen 3
    have c1 : w1.cell? ⟨w.heap.size, 1, none⟩ = some (.slice a n ca) := by have := (Blk.of ((Blk.new w _ _).alloc _) hb1 : Blk w1 w.heap.size #[.int .i64 z, .slice a n ca] 30).cell 1; simpa using this
    simp only [List.getElem?_toArray, List.getElem?_cons_zero, List.getElem?_cons_succ] at d0 d1 d2 d3
    clear rb hb1
    go_wp2
    refine bodyPost_ret (v := .agg #[.int .i64 3, .int .i64 0, .int .i64 0, .slice none 0 0]) (by simp [results, Tryz.results20, go_sem, d0, d1, d2, d3]) rfl ⟨_, rfl, TabR.nil _ _ _ _, ?_⟩
    repeat first | exact hb01 | refine Below.setCell ?_ (by first | exact Nat.le_refl _ | omega | (simp; done) | (show w.heap.size ≤ w.heap.size + 1; omega)) _
  obtain ⟨s, rfl⟩ : ∃ s : Nat, I = (s : Int) := ⟨I.toNat, by omega⟩
  have e1 : rtCode cs z ts text (s : Int) = 0 := by rw [rtCode, if_neg (by simpa using hf), if_neg (by omega), if_neg (by omega)]
  have e2 : rtVal cs z ts text (s : Int) = (rtAll cs z ts text s).1 := by rw [rtVal, e1, if_pos rfl]; rfl
  have e3 : rtSize cs z ts text (s : Int) = z := by rw [rtSize, e1, if_pos rfl]
  have e4 : rtRows cs z ts text (s : Int) = (rtAll cs z ts text s).2 := by rw [rtRows, e1, if_pos rfl]; rfl
  rw [e1, e2, e3, e4]
  have hI := tabI_of hf
  obtain ⟨h1, h2, h3, h4, h5⟩ := tabF_ok hf
  have hp := progFault_ok h1
  have hin := inside_of h1
  have hE := rtAll_I (at_ := s) hf (show text.length ≤ 400 by omega)
  have hll := hi.1
  rw [hf] at HCF
  have HMO := hid (fun q W0 w' ht0 hbl hq hq0 => memoryOf_any z a n ca ts q (.slice i ni ci) W0 w' ht0 hbl hq hq0 (by omega) h5 (fun y hy => ⟨⟨hI.rise y hy, fun x hx => by have := hI.inn y hy x hx; omega⟩, hI.lens y hy, hI.many y hy⟩))
  have HGO := hid (fun W0 w' B b q v h0 k0 h => lastDoneT_any W0 w' B b q z i ni ci cs v ts x m cx text s hin (by omega) (by omega) (by omega) (by omega) hB h0 k0 h hI)
  have HTB := hid (fun W0 w' B b q v h => tableT_any W0 w' B b q z (.slice i ni ci) v cs.length 657 (rtAll cs z ts text s).2 h hE hp.2.1 (by omega))
  generalize (rtAll cs z ts text s).1 = P at *
  generalize (rtAll cs z ts text s).2 = E at *
  have hs0 : ¬ (s : Int) < 0 := by omega
  have hs1 : ¬ (m : Int) < (s : Int) := by omega
  clear e1 e2 e3 e4 hf hI h1 h2 h3 h4 h5 hp hE hln hin hll hI0 hIn hlx h400 hB
  go_enter Tryz.func20, Tryz.ntmps20
  go_wp2_with fail
  refine (HCF.out _ (hi.below (B1 _ _)) (ht.below (B1 _ _))).mono ?_
  rintro e w1 ⟨rfl, hb1⟩
  have HB := hid (show Below w.heap.size w w1 from (B1 _ _).trans (hb1.mono (by simp; omega)))
  have HRB := hid (show Blk w1 (w.heap.size + 1) #[.int .i64 0, .int .i64 0, .int .i64 0, .slice none 0 0] 32 from Blk.of (Blk.new1 w _ _ _) hb1)
  have HXB := hid (show Blk w1 w.heap.size #[.int .i64 z, .slice a n ca] 30 from Blk.of ((Blk.new w _ _).alloc _) hb1)
  clear hb1
  have c0 := HXB.out.cell 0
  have c1 := HXB.out.cell 1
  simp only [List.getElem?_toArray, List.getElem?_cons_zero, List.getElem?_cons_succ] at c0 c1
  obtain ⟨w2, rfl⟩ : ∃ w2, w2 = w1 := ⟨_, rfl⟩
  have HB2 := HB
  have HRB2 := HRB
  clear HB HRB HXB HCF
  go_wp2_with fail
  have HBD := hid (show Below w.heap.size w w2.drew from HB2.out.drew)
  have HTA := hid (ht.below HBD.out)
  have HIA := hid (hi.below HBD.out)
  have HXA := hid (hx.below HBD.out)
  have hS0 : w2.drew.cell? ⟨w.heap.size, 0, none⟩ = some (.int .i64 z) ∧ w2.drew.cell? ⟨w.heap.size, 1, none⟩ = some (.slice a n ca) := ⟨c0, c1⟩
  have HRD := hid (show Blk w2.drew (w.heap.size + 1) #[.int .i64 0, .int .i64 0, .int .i64 0, .slice none 0 0] 32 from HRB2.out)
  refine wp_region_held_drew (S := fun w' => w'.cell? ⟨w.heap.size, 0, none⟩ = some (.int .i64 z) ∧ w'.cell? ⟨w.heap.size, 1, none⟩ = some (.slice a n ca)) (by kernel_rfl) (by exact hS0) (fun hS => ?_)
  refine wpAnyH_take (i := 0) (v := (.agg #[.int .i64 z, .slice a n ca])) rfl (by as_aux_lemma => kernel_rfl) (by as_aux_lemma => kernel_rfl) (by as_aux_lemma => kernel_rfl) (fun _ _ _ h => h) (Or.inl ⟨by kernel_rfl, ?_⟩) hS ?_
  · intro w hSw; (try dsimp only at hSw); have h0 := hSw.1; have h1 := hSw.2; go_simp
  (try simp only [Act.put, List.getElem_toArray, List.getElem_cons_zero, List.getElem_cons_succ, List.setIfInBounds_toArray, List.set_cons_zero, List.set_cons_succ])
  refine wpAnyH_take (i := 1) (v := (.slice i ni ci)) rfl (by as_aux_lemma => kernel_rfl) (by as_aux_lemma => kernel_rfl) (by as_aux_lemma => kernel_rfl) (fun _ _ _ h => h) (Or.inl ⟨by kernel_rfl, ?_⟩) hS ?_
  · intro w hSw; (try dsimp only at hSw); have h0 := hSw.1; have h1 := hSw.2; go_simp
  (try simp only [Act.put, List.getElem_toArray, List.getElem_cons_zero, List.getElem_cons_succ, List.setIfInBounds_toArray, List.set_cons_zero, List.set_cons_succ])
  refine wpAnyH_ready (rs := [2]) (by as_aux_lemma => kernel_rfl) (by simp) ?_
  refine AllReadyH.cons rfl (fun K hK => ?_) AllReadyH.nil
  go_simp
  refine (stepOf_any i ni ci _).mono ?_
  rintro e w3 ⟨rfl, hw3⟩
  have hb3 : Below w2.drew.heap.size w2.drew w3 := by rw [hw3]; exact (Below.refl _ _).alloc (Nat.le_refl _) _
  have hq3 : Blk w3 w2.drew.heap.size #[.slice i ni ci] 34 := by rw [hw3]; exact Blk.new _ _ _
  clear hw3
  refine hK.out _ _ (⟨cell_later hb3 hS.1, cell_later hb3 hS.2⟩) (fun hS2 => ?_)
  clear hK K hS
  have hS := hS2
  clear hS2
  (try simp only [Act.put, List.getElem_toArray, List.getElem_cons_zero, List.getElem_cons_succ, List.setIfInBounds_toArray, List.set_cons_zero, List.set_cons_succ])
  refine wpAnyH_ready (rs := [3]) (by as_aux_lemma => kernel_rfl) (by simp) ?_
  refine AllReadyH.cons rfl (fun K hK => ?_) AllReadyH.nil
  go_simp
  refine (HMO.out _ w2.drew w3 HTA.out hb3 hq3 (Nat.le_refl _)).mono ?_
  rintro e w4 ⟨B, b, v, rfl, hm4, -⟩
  refine hK.out _ _ (⟨cell_later hm4.below hS0.1, cell_later hm4.below hS0.2⟩) (fun hS2 => ?_)
  clear hK K hS
  have hS := hS2
  clear hS2
  (try simp only [Act.put, List.getElem_toArray, List.getElem_cons_zero, List.getElem_cons_succ, List.setIfInBounds_toArray, List.set_cons_zero, List.set_cons_succ])
  refine wpAnyH_take (i := 4) (v := (.pointer (some ⟨B, 0, none⟩))) rfl (by as_aux_lemma => kernel_rfl) (by as_aux_lemma => kernel_rfl) (by as_aux_lemma => kernel_rfl) (fun _ _ _ h => h) (Or.inl ⟨by kernel_rfl, ?_⟩) hS ?_
  · intro w hSw; (try dsimp only at hSw); have h0 := hSw.1; have h1 := hSw.2; go_simp
  (try simp only [Act.put, List.getElem_toArray, List.getElem_cons_zero, List.getElem_cons_succ, List.setIfInBounds_toArray, List.set_cons_zero, List.set_cons_succ])
  refine wpAnyH_done (by kernel_rfl) ?_ _
  have HM4 := hid hm4
  clear hS hS0 hm4 hb3 hq3 c0 c1
  go_wp2_with fail
  refine (HGO.out w2.drew w4 B b _ v HIA.out HXA.out HM4.out).mono ?_
  rintro e w6 ⟨rfl, v6, hm6⟩
  have HM6 := hid hm6
  clear hm6 HM4
  go_wp2_with fail
  refine (HTB.out w2.drew w6 B b _ v6 HM6.out).mono ?_
  rintro e w7 ⟨va, cv, rfl, hrow, hb7⟩
  have hb27 : Below w2.drew.heap.size w2.drew w7 := HM6.out.below.trans (hb7.mono HM6.out.below.size)
  have rb := Blk.of HRD.out hb27
  have d0 := rb.cell 0
  have d1 := rb.cell 1
  have d2 := rb.cell 2
  have d3 := rb.cell 3
  have df0 := rb.frozen 0
  have df1 := rb.frozen 1
  have df2 := rb.frozen 2
  have df3 := rb.frozen 3
  simp only [List.getElem?_toArray, List.getElem?_cons_zero, List.getElem?_cons_succ] at d0 d1 d2 d3
  have HB07 := hid (HBD.out.trans (hb27.mono HBD.out.size))
  have hz6 : w.heap.size + 2 ≤ w6.heap.size := by have := HRD.out.lt; have := HM6.out.below.size; omega
  have HT : Hid (TabR true w7 w6.heap.size w7.heap.size (.slice va E.length cv) E.length E) := hid (TabR.weaken hrow)
  clear rb hrow hb7 hb27 HM6
  go_wp2
  refine bodyPost_ret (v := .agg #[.int .i64 0, .int .i64 P, .int .i64 z, .slice va E.length cv]) (by simp [results, Tryz.results20, go_sem, d0, d1, d2, d3]) rfl ⟨_, rfl, ?_, ?_⟩
  · refine TabR.mono (lo := w6.heap.size) (hi := w7.heap.size) ?_ (by omega) (by simp [World.setCell])
    repeat first | exact HT.out | refine TabR.setB ?_ (.inl (by omega)) _ _
  · repeat first | exact HB07.out | refine Below.setCell ?_ (by first | exact Nat.le_refl _ | omega | (simp; done) | (show w.heap.size ≤ w.heap.size + 1; omega)) _


set_option maxHeartbeats 1600000 in
theorem specRunTable_any (i : Option Addr) (ni ci : Nat) (cs : List In) (z : Int) (a : Option Addr) (n ca : Nat) (ts : List St) (x : Option Addr) (m cx : Nat) (text : List Int) (I : Int) (w : World) (hi : RdR inE 8 w i ni cs) (hsi : inSum cs ≤ 1048576) (hni : ni ≤ 1048576) (ht : RdT w a n ts) (hs : (n : Int) + stN ts ≤ 1048576)
    (hx : Rd .u8 w x m text) (hB : Bytes text) (hm : m ≤ 1048576) :
    Calls Tryz.prog 18 #[.slice i ni ci, .agg #[.int .i64 z, .slice a n ca], .slice x m cx, .int .i64 I] w fun e w' => ∃ v, e = .returned (.agg #[.int .i64 (rtCode cs z ts text I), .int .i64 (rtVal cs z ts text I), .int .i64 (rtSize cs z ts text I), v]) ∧ TabR true w' w.heap.size w'.heap.size v (rtRows cs z ts text I).length (rtRows cs z ts text I) ∧ Below w.heap.size w w' := by
  have B1 : ∀ o1 o2, Below w.heap.size w ((w.alloc o1).alloc o2) := fun o1 o2 => ((Below.refl _ _).alloc (Nat.le_refl _) o1).alloc (by simp) o2
  have HCF := hid (fun w' h1 h2 h3 h4 => l8Fault_any i ni ci cs w.heap.size z a n ca ts w' h1 hsi hni h2 h3 h4 hs)
  by_cases hf : tabF cs z ts = 0
  case neg =>
    have e1 : rtCode cs z ts text I = tabF cs z ts := by rw [rtCode, if_pos hf]
    have e2 : rtVal cs z ts text I = 0 := by rw [rtVal, e1, if_neg hf]
    have e3 : rtSize cs z ts text I = 0 := by rw [rtSize, e1, if_neg hf]
    have e4 : rtRows cs z ts text I = [] := by rw [rtRows, e1, if_neg hf]
    rw [e1, e2, e3, e4]
    generalize tabF cs z ts = T at *
    have hf' : (T == 0) = false := by simpa using hf
    clear e1 e2 e3 e4 hf
    go_enter Tryz.func18, Tryz.ntmps18
    go_wp2_with fail
    refine (HCF.out _ (hi.below (B1 _ _)) (by simp [go_sem]) (by simp [go_sem]) (ht.below (B1 _ _))).mono ?_
    rintro e w1 ⟨rfl, hb1⟩
    have hb01 : Below w.heap.size w w1 := (B1 _ _).trans (hb1.mono (by simp; omega))
    have RB : Blk w1 (w.heap.size + 1) #[.int .i64 0, .int .i64 0, .int .i64 0, .slice none 0 0] 32 := Blk.of (Blk.new1 w _ _ _) hb1
    have HB := hid hb01
    have HRB := hid RB
    clear hb1 RB hb01
    go_wp2_with fail
    refine (l8Bad_any T w1).mono ?_
    rintro e w2 ⟨rfl, hb2⟩
    have rb := Blk.of HRB.out hb2
    have d0 := rb.cell 0
    have d1 := rb.cell 1
    have d2 := rb.cell 2
    have d3 := rb.cell 3
    have df0 := rb.frozen 0
    have df1 := rb.frozen 1
    have df2 := rb.frozen 2
    have df3 := rb.frozen 3
    simp only [List.getElem?_toArray, List.getElem?_cons_zero, List.getElem?_cons_succ] at d0 d1 d2 d3
    have hb02 : Below w.heap.size w w2 := HB.out.trans (hb2.mono HB.out.size)
    clear rb hb2
    go_wp2
    refine bodyPost_ret (v := .agg #[.int .i64 T, .int .i64 0, .int .i64 0, .slice none 0 0]) (by simp [results, Tryz.results18, go_sem, d0, d1, d2, d3]) rfl ⟨_, rfl, TabR.nil _ _ _ _, ?_⟩
    repeat first | exact hb02 | refine Below.setCell ?_ (by first | exact Nat.le_refl _ | omega | (simp; done) | (show w.heap.size ≤ w.heap.size + 1; omega)) _
  have hln := ht.len
  have hlx := hx.1
  have hp0 := (tabF_ok hf).1
  have HAS := hid (l7Asked_any i ni ci cs x m cx text I hsi hni hm hlx)
  obtain ⟨K, hK⟩ : ∃ K, K = (if progFault cs ≠ 0 then progFault cs else if 400 < text.length then 2 else if ¬ (0 ≤ I ∧ I ≤ text.length) then (3 : Int) else 0) := ⟨_, rfl⟩
  rw [← hK] at HAS
  rw [if_neg (by simpa using hp0)] at hK
  by_cases hIb : K = 0
  case neg =>
    have e1 : rtCode cs z ts text I = K := by rw [rtCode, if_neg (by simpa using hf)]; exact hK.symm
    have e2 : rtVal cs z ts text I = 0 := by rw [rtVal, e1, if_neg hIb]
    have e3 : rtSize cs z ts text I = 0 := by rw [rtSize, e1, if_neg hIb]
    have e4 : rtRows cs z ts text I = [] := by rw [rtRows, e1, if_neg hIb]
    rw [e1, e2, e3, e4]
    rw [hf] at HCF
    have hK' : (K == 0) = false := by simpa using hIb
    clear e1 e2 e3 e4 hf hIb hK hp0
    go_enter Tryz.func18, Tryz.ntmps18
    go_wp2_with fail
    refine (HCF.out _ (hi.below (B1 _ _)) (by simp [go_sem]) (by simp [go_sem]) (ht.below (B1 _ _))).mono ?_
    rintro e w1 ⟨rfl, hb1⟩
    have HRB := hid (show Blk w1 (w.heap.size + 1) #[.int .i64 0, .int .i64 0, .int .i64 0, .slice none 0 0] 32 from Blk.of (Blk.new1 w _ _ _) hb1)
    have c1 : w1.cell? ⟨w.heap.size, 1, none⟩ = some (.slice a n ca) := by have := (Blk.of ((Blk.new w _ _).alloc _) hb1 : Blk w1 w.heap.size #[.int .i64 z, .slice a n ca] 30).cell 1; simpa using this
    have HB := hid (show Below w.heap.size w w1 from (B1 _ _).trans (hb1.mono (by simp; omega)))
    clear hb1
    go_wp2_with fail
    refine (HAS.out w1 (hi.below HB.out)).mono ?_
    rintro e w1' ⟨rfl, hb9⟩
    have HB' := hid (HB.out.trans (hb9.mono HB.out.size))
    have HRB' := hid (Blk.of HRB.out hb9)
    clear hb9
    go_wp2_with fail
    refine (l8Bad_any K w1').mono ?_
    rintro e w2 ⟨rfl, hb2⟩
    have rb := Blk.of HRB'.out hb2
    have d0 := rb.cell 0
    have d1 := rb.cell 1
    have d2 := rb.cell 2
    have d3 := rb.cell 3
    have df0 := rb.frozen 0
    have df1 := rb.frozen 1
    have df2 := rb.frozen 2
    have df3 := rb.frozen 3
    simp only [List.getElem?_toArray, List.getElem?_cons_zero, List.getElem?_cons_succ] at d0 d1 d2 d3
    have hb02 : Below w.heap.size w w2 := HB'.out.trans (hb2.mono HB'.out.size)
    clear rb hb2
    go_wp2
    refine bodyPost_ret (v := .agg #[.int .i64 K, .int .i64 0, .int .i64 0, .slice none 0 0]) (by simp [results, Tryz.results18, go_sem, d0, d1, d2, d3]) rfl ⟨_, rfl, TabR.nil _ _ _ _, ?_⟩
    repeat first | exact hb02 | refine Below.setCell ?_ (by first | exact Nat.le_refl _ | omega | (simp; done) | (show w.heap.size ≤ w.heap.size + 1; omega)) _
  rw [hIb] at HAS
  have hm4 : m ≤ 400 := by
    by_cases h : 400 < text.length
    · rw [if_pos h] at hK; omega
    · omega
  have hI2 : 0 ≤ I ∧ I ≤ (m : Int) := by
    rw [if_neg (by omega)] at hK
    by_cases h : 0 ≤ I ∧ I ≤ (text.length : Int)
    · omega
    · rw [if_pos h] at hK; omega
  clear hK
  obtain ⟨s, rfl⟩ : ∃ s : Nat, I = (s : Int) := ⟨I.toNat, by omega⟩
  have e1 : rtCode cs z ts text (s : Int) = 0 := by rw [rtCode, if_neg (by simpa using hf), if_neg (by omega), if_neg (by omega)]
  have e2 : rtVal cs z ts text (s : Int) = (rtAll cs z ts text s).1 := by rw [rtVal, e1, if_pos rfl]; rfl
  have e3 : rtSize cs z ts text (s : Int) = z := by rw [rtSize, e1, if_pos rfl]
  have e4 : rtRows cs z ts text (s : Int) = (rtAll cs z ts text s).2 := by rw [rtRows, e1, if_pos rfl]; rfl
  rw [e1, e2, e3, e4]
  have hI := tabI_of hf
  obtain ⟨h1, h2, h3, -, -⟩ := tabF_ok hf
  have hp := progFault_ok h1
  have hin := inside_of h1
  have hll := hi.1
  rw [hf] at HCF
  have HCP := hid (fun w' h => l8Copy_any z a n ca ts w' h hs)
  have HST := hid (fun W0 lo B va cva w' k1 k9 k2 k3 k4 k5 k6 k7 => l8Run_any W0 i ni ci cs lo B z va n cva ts x m cx text s w' hin hsi (by omega) (by omega) hm4 (by omega) hB k1 k9 k2 k3 k4 hI k5 k6 k7)
  generalize (rtAll cs z ts text s).1 = P at *
  generalize (rtAll cs z ts text s).2 = E at *
  clear e1 e2 e3 e4 hf hI h1 h2 h3 hp hin hll hIb hln hp0 hm4 hI2 hlx hB
  go_enter Tryz.func18, Tryz.ntmps18
  go_wp2_with fail
  refine (HCF.out _ (hi.below (B1 _ _)) (by simp [go_sem]) (by simp [go_sem]) (ht.below (B1 _ _))).mono ?_
  rintro e w1 ⟨rfl, hb1⟩
  have hb01 : Below w.heap.size w w1 := (B1 _ _).trans (hb1.mono (by simp; omega))
  have HRB := hid (show Blk w1 (w.heap.size + 1) #[.int .i64 0, .int .i64 0, .int .i64 0, .slice none 0 0] 32 from Blk.of (Blk.new1 w _ _ _) hb1)
  have HXB := hid (show Blk w1 w.heap.size #[.int .i64 z, .slice a n ca] 30 from Blk.of ((Blk.new w _ _).alloc _) hb1)
  have HB := hid hb01
  clear hb1 hb01
  have x0 := HXB.out.cell 0
  have x1 := HXB.out.cell 1
  simp only [List.getElem?_toArray, List.getElem?_cons_zero, List.getElem?_cons_succ] at x0 x1
  go_wp2_with fail
  refine (HAS.out w1 (hi.below HB.out)).mono ?_
  rintro e w2 ⟨rfl, hb9⟩
  have HB2 := hid (HB.out.trans (hb9.mono HB.out.size))
  have HRB2 := hid (Blk.of HRB.out hb9)
  have HXB2 := hid (Blk.of HXB.out hb9)
  clear x0 x1
  have x0 := HXB2.out.cell 0
  have x1 := HXB2.out.cell 1
  simp only [List.getElem?_toArray, List.getElem?_cons_zero, List.getElem?_cons_succ] at x0 x1
  clear HB HRB HXB HCF HAS hb9
  go_wp2_with fail
  refine (HCP.out w2 (ht.below HB2.out)).mono ?_
  rintro e w3 ⟨va, cva, rfl, hrow, hb3⟩
  have HB3 := hid (HB2.out.trans (hb3.mono HB2.out.size))
  have HRB3 := hid (Blk.of HRB2.out hb3)
  have HRW := hid hrow
  have hlo : w2.heap.size ≤ w3.heap.size := hb3.size
  have HB23 := hid hb3
  have hz2 : w.heap.size + 2 ≤ w2.heap.size := by have := HRB2.out.lt; omega
  clear hb3 hrow x0 x1
  have HBA := hid ((Below.refl w3.heap.size w3).alloc (Nat.le_refl _) (.cells #[.int .i64 z, .slice va n cva] 30))
  have HI3 := hid (hi.below HB2.out)
  have HX3 := hid (hx.below HB2.out)
  go_wp2_with fail
  refine (HST.out w2 w2.heap.size w3.heap.size va cva _ HI3.out HX3.out (HB23.out.trans (HBA.out.mono hlo)) (Blk.new w3 _ _) (RowN.mono (tabOk false) (RowN.below (tabOk false) HRW.out HBA.out) (Nat.le_refl _) HBA.out.size) (by simp; omega) (Nat.le_refl _) hlo).mono ?_
  rintro e w4 ⟨rfl, va4, n4, c4, hk4, hr4, hb4⟩
  have h24 : Below w2.heap.size w2 w4 := hb4
  have rb := Blk.of HRB2.out h24
  have d0 := rb.cell 0
  have d1 := rb.cell 1
  have d2 := rb.cell 2
  have d3 := rb.cell 3
  have df0 := rb.frozen 0
  have df1 := rb.frozen 1
  have df2 := rb.frozen 2
  have df3 := rb.frozen 3
  have k0 := hk4.cell 0
  have k1 := hk4.cell 1
  simp only [List.getElem?_toArray, List.getElem?_cons_zero, List.getElem?_cons_succ] at d0 d1 d2 d3 k0 k1
  have hb04 : Below w.heap.size w w4 := HB2.out.trans (h24.mono HB2.out.size)
  have HT : Hid (TabR true w4 w2.heap.size w4.heap.size (.slice va4 n4 c4) n4 E) := hid (TabR.weaken hr4)
  have HEL : Hid (E.length = n4) := hid (RowN.len hr4)
  have HB04 := hid hb04
  clear rb hk4 hr4 hb4 h24 hb04
  go_wp2
  refine bodyPost_ret (v := .agg #[.int .i64 0, .int .i64 P, .int .i64 z, .slice va4 n4 c4]) (by simp [results, Tryz.results18, go_sem, d0, d1, d2, d3]) rfl ⟨_, rfl, ?_, ?_⟩
  · rw [HEL.out]
    refine TabR.mono (lo := w2.heap.size) (hi := w4.heap.size) ?_ (by omega) (by simp [World.setCell])
    repeat first | exact HT.out | refine TabR.setB ?_ (.inl (by omega)) _ _
  · repeat first | exact HB04.out | refine Below.setCell ?_ (by first | exact Nat.le_refl _ | omega | (simp; done) | (show w.heap.size ≤ w.heap.size + 1; omega)) _
end Go.Proofs.YtlemdjgpkmjihaaGreat
