/-
  Chapter 8: the fault of a table, of the specification.
-/
import Derived.Test.YtlemdjgpkmjihaaGreatTabA
import Derived.Test.YtlemdjgpkmjihaaGreatProgA
import Derived.Test.YtlemdjgpkmjihaaGreatHlpL
import Derived.Test.YtlemdjgpkmjihaaGreatBox
namespace Go.Proofs.YtlemdjgpkmjihaaGreat
open Go.RowKit
set_option linter.unusedVariables false
set_option linter.unusedSimpArgs false

set_option maxHeartbeats 1600000 in
theorem l8Arcs_any (b q : Nat) (p : Option Addr) (cq : Nat) (az : List L2) (n : Int) (w : World) (c1 : w.cell? ⟨b, q + 1, none⟩ = some (.slice p az.length cq)) (hr : RdR lineE 2 w p az.length az) (hm : az.length ≤ 1048576) (hn0 : 0 ≤ n) (hn : n ≤ 12) :
    Calls Tryz.prog 49 #[.pointer (some ⟨b, q, none⟩), .int .i64 n] w fun e w' => e = .returned (.int .i64 (arcsF n az)) ∧ ∃ d, w' = w.drewN d := by
  obtain ⟨R, hR⟩ : ∃ R, R = arcsF n az := ⟨_, rfl⟩
  rw [← hR]
  by_cases h256 : 256 < az.length
  · have h' : (256 : Int) < (az.length : Int) := by omega
    have HR : Hid _ := hR
    clear hR
    go_enter Tryz.func49, Tryz.ntmps49
    go_wp2
    go_ret
    exact ⟨ret_int (by rw [HR.out, arcsF, if_pos h256]), 0, rfl⟩
  have h' : ¬ (256 : Int) < (az.length : Int) := by omega
  have HT : Hid (arcGo n (az.take 0) (az.drop 0) = R) := by rw [hR, arcsF, if_neg h256]; rfl
  clear hR
  go_enter Tryz.func49, Tryz.ntmps49
  go_wp2
  go_loopw [5] (fun i wr => ∃ k d : Nat, k ≤ az.length ∧ i = .int .i64 k ∧ wr = w.drewN d ∧ Hid (arcGo n (az.take k) (az.drop k) = R)) (fun i _ => az.length - (intOf i).toNat)
  case atStart => exact ⟨0, 0, Nat.zero_le _, rfl, rfl, HT⟩
  case round =>
    obtain ⟨k, d, hk, rfl, rfl, ht⟩ := hrel
    clear HT
    by_cases hlt : k < az.length
    · obtain ⟨b1, o1, c, rfl, hx, hc⟩ := hr.at hlt
      have hall := fun (j : Nat) (y : L2) (hy : az[j]? = some y) => hr.2.resolve_left (by omega)
      obtain ⟨d0, d1⟩ := two hc
      have ht2 := ht.out
      rw [arcGo_at hx] at ht2
      have HX := hid hx
      have HA := hid hr
      clear hx hc ht hall
      have hlt' : (k : Int) < (az.length : Int) := by omega
      obtain ⟨x, y⟩ := c
      simp only at d0 d1 ht2
      by_cases h1 : 0 ≤ x ∧ x ≤ 255
      case neg =>
        rw [if_pos (by exact .inl h1)] at ht2
        have CI : Hid _ := fun w' => in5_is x 0 255 false w' (by simpa using h1)
        go_wp2_with fail
        refine (CI.out _).mono ?_
        rintro e w1 ⟨rfl, rfl⟩
        go_wp2
        go_ret
        exact ⟨ret_int ht2, d, rfl⟩
      have C1 : Hid _ := fun w' => in5_is x 0 255 true w' (by simpa using h1)
      have hnw : IntKind.i64.wrap (n - 1) = n - 1 := by rw [IntKind.wrap_i64]; omega
      by_cases h2 : 0 ≤ y ∧ y ≤ n - 1
      case neg =>
        rw [if_pos (by exact .inr h2)] at ht2
        have C2 : Hid _ := fun w' => in5_is y 0 (n - 1) false w' (by simpa using h2)
        go_wp2_with fail
        refine (C1.out _).mono ?_
        rintro e w1 ⟨rfl, rfl⟩
        go_wp2_with fail
        refine (C2.out _).mono ?_
        rintro e w1 ⟨rfl, rfl⟩
        go_wp2
        go_ret
        exact ⟨ret_int ht2, d, rfl⟩
      have C2 : Hid _ := fun w' => in5_is y 0 (n - 1) true w' (by simpa using h2)
      rw [if_neg (by unfold ArcBad; simp only; omega)] at ht2
      have HT2 := hid ht2
      clear ht2
      go_wp2_with fail
      refine (C1.out _).mono ?_
      rintro e w1 ⟨rfl, rfl⟩
      go_wp2_with fail
      refine (C2.out _).mono ?_
      rintro e w1 ⟨rfl, rfl⟩
      go_wp2
      go_loopw [7] (fun i wr => ∃ j d' : Nat, j ≤ k ∧ i = .int .i64 j ∧ wr = w.drewN d' ∧ Hid (x ∉ (az.take j).map (·.1))) (fun i _ => k - (intOf i).toNat)
      case atStart => exact ⟨0, d, Nat.zero_le _, rfl, rfl, (by simp : x ∉ (az.take 0).map (·.1))⟩
      case round =>
        obtain ⟨j, d', hj, rfl, rfl, hnot⟩ := hrel
        by_cases hjk : j < k
        · obtain ⟨b2, o2, c', e2, hx', hc'⟩ := HA.out.at (show j < az.length by omega)
          simp only [Option.some.injEq, Addr.mk.injEq] at e2
          obtain ⟨rfl, rfl, -⟩ := e2
          obtain ⟨g0, -⟩ := two hc'
          have hn2 := hnot.out
          obtain ⟨hj', e'⟩ := List.getElem?_eq_some_iff.1 hx'
          have hsu : (az.take (j + 1)).map (·.1) = (az.take j).map (·.1) ++ [c'.1] := by rw [List.take_succ_eq_append_getElem hj', e']; simp
          have hin : c'.1 ∈ (az.take k).map (·.1) := by
            rw [List.map_take]
            exact List.mem_of_getElem? (i := j) (by rw [List.getElem?_take_of_lt hjk]; simp [hx'])
          have HS := hid hsu
          have HI := hid hin
          clear hx' hc' hsu hin e' hnot
          generalize c'.1 = x' at g0 HS HI
          have HN := hid hn2
          clear hn2
          have hjk' : (j : Int) < (k : Int) := by omega
          by_cases hxx : x' = x
          · have hxx' : (x' == x) = true := by simpa using hxx
            go_wp2
            go_quiet (fail)
            go_wp2
            go_ret
            have := HT2.out
            rw [if_pos (by rw [← hxx]; exact HI.out)] at this
            exact ⟨ret_int this, _, World.drewN_drewN _ _ _⟩
          · have hxx' : (x' == x) = false := by simpa using hxx
            go_wp2
            go_quiet (fail)
            go_wp2
            go_roundw
            case rel =>
              refine ⟨j + 1, _, by omega, by go_num, by first | rfl | exact World.drewN_drewN _ _ _, ?_⟩
              have : x ∉ (az.take (j + 1)).map (·.1) := by
                rw [HS.out, List.mem_append, List.mem_singleton]
                exact fun e => e.elim HN.out (fun e => hxx e.symm)
              exact this
            case measure => simp [intOf]; omega
        · obtain rfl : j = k := by omega
          have h3 := HT2.out
          rw [if_neg hnot.out] at h3
          have HT3 := hid h3
          clear h3 hnot HT2
          go_wp2
          go_roundw
          case rel => exact ⟨j + 1, d', by omega, by go_num, rfl, HT3⟩
          case measure => simp [intOf]; omega
    · have ht2 := ht.out
      rw [arcGo_end (by omega)] at ht2
      go_wp2
      go_ret
      exact ⟨ret_int ht2, d, rfl⟩

set_option maxHeartbeats 1600000 in
theorem l8At_any (b : Nat) (a : Option Addr) (n ca : Nat) (ts : List St) (p : Option Addr) (m cp : Nat) (xs : List Int) (w : World) (c1 : w.cell? ⟨b, 1, none⟩ = some (.slice a n ca)) (ht : RdT w a n ts) (hp : Rd .i64 w p m xs) (hs : (n : Int) + stN ts ≤ 1048576) (hm : m ≤ 1048576) :
    Calls Tryz.prog 50 #[.pointer (some ⟨b, 0, none⟩), .slice p m cp] w fun e w' => e = .returned (.int .i64 (tAt ts xs)) ∧ ∃ d, w' = w.drewN d := by
  obtain ⟨R, hR⟩ : ∃ R, R = tAt ts xs := ⟨_, rfl⟩
  rw [← hR]
  have hlen := ht.len
  have HT : Hid (tAtGo (0 : Nat) (ts.drop 0) xs = R) := by rw [hR]; rfl
  have HL := hid hlen
  clear hR hlen
  go_enter Tryz.func50, Tryz.ntmps50
  go_wp2
  go_loopw [5] (fun i wr => ∃ k d : Nat, k ≤ n ∧ i = .int .i64 k ∧ wr = w.drewN d ∧ Hid (tAtGo k (ts.drop k) xs = R)) (fun i _ => n - (intOf i).toNat)
  case atStart => exact ⟨0, 0, Nat.zero_le _, rfl, rfl, HT⟩
  case round =>
    obtain ⟨k, d, hk, rfl, rfl, hg⟩ := hrel
    clear HT
    by_cases hlt : k < n
    · obtain ⟨b1, o1, q, cq, r, cr, ss, az, rfl, hx, d0, d1, r1, r2, -, -⟩ := ht.at hlt
      have hg2 := hg.out
      rw [tAtGo_at hx] at hg2
      have hs1 := stN_succ hx
      have hs2 := stN_take ts (k + 1)
      rw [hs1] at hs2
      have R1 := hid r1
      have hlt' : (k : Int) < (n : Int) := by omega
      clear hx r1 r2 hg hs1
      simp only at hg2
      have CE := hid (fun (d : Nat) => l8Same_any q p ss.length m cq cp ss xs (w.drewN d) (R1.out.drewN d) (hp.drewN d) (by omega) (by omega))
      by_cases he : ss = xs
      · rw [if_pos he] at hg2
        rw [decide_eq_true he] at CE
        have HG := hid hg2
        clear he hg2
        go_wp2_with fail
        refine (CE.out _).mono ?_
        rintro e w1 ⟨rfl, d', rfl⟩
        go_wp2
        go_ret
        exact ⟨ret_int HG.out, _, by first | rfl | exact World.drewN_drewN _ _ _⟩
      · rw [if_neg he] at hg2
        rw [decide_eq_false he] at CE
        have HG := hid hg2
        clear he hg2
        go_wp2_with fail
        refine (CE.out _).mono ?_
        rintro e w1 ⟨rfl, d', rfl⟩
        go_wp2
        go_roundw
        case rel => exact ⟨k + 1, _, by omega, by go_num, by first | rfl | exact World.drewN_drewN _ _ _, by have := HG.out; push_cast; exact this⟩
        case measure => simp [intOf]; omega
    · have hg2 := hg.out
      rw [List.drop_of_length_le (by rw [HL.out]; omega)] at hg2
      go_wp2
      go_ret
      exact ⟨ret_int hg2, d, rfl⟩

set_option maxHeartbeats 3200000 in
set_option maxRecDepth 20000 in
theorem l8Fault_any (i : Option Addr) (ni ci : Nat) (cs : List In) (b : Nat) (z : Int) (a : Option Addr) (n ca : Nat) (ts : List St) (w : World) (hi : RdR inE 8 w i ni cs) (hsi : inSum cs ≤ 1048576) (hni : ni ≤ 1048576)
    (c0 : w.cell? ⟨b, 0, none⟩ = some (.int .i64 z)) (c1 : w.cell? ⟨b, 1, none⟩ = some (.slice a n ca)) (ht : RdT w a n ts) (hs : (n : Int) + stN ts ≤ 1048576) :
    Calls Tryz.prog 25 #[.slice i ni ci, .pointer (some ⟨b, 0, none⟩)] w fun e w' => e = .returned (.int .i64 (tabF cs z ts)) ∧ Below w.heap.size w w' := by
  have CP := fun w' h' => l7Fault_any i ni ci cs w' h' hsi hni
  have hlen := ht.len
  obtain ⟨R, hR⟩ : ∃ R, R = tabF cs z ts := ⟨_, rfl⟩
  rw [← hR]
  by_cases hp : progFault cs = 0
  case neg =>
    have e : R = progFault cs := by rw [hR, tabF, if_pos hp]
    rw [e]
    generalize progFault cs = P at *
    have hp' : (P == 0) = false := by simpa using hp
    have HP : Hid _ := CP
    clear CP hlen hR e
    go_enter Tryz.func25, Tryz.ntmps25
    go_wp2_with fail
    refine (HP.out _ hi).mono ?_
    rintro e w1 ⟨rfl, hb1⟩
    go_wp2
    go_ret
    exact ⟨rfl, hb1⟩
  rw [hp] at CP
  have HP : Hid _ := CP
  clear CP
  by_cases hz : 1 ≤ z ∧ z ≤ 12
  case neg =>
    have e : R = 3 := by rw [hR, tabF, if_neg (by simp [hp]), if_pos hz]
    rw [e]
    have CI : Hid _ := fun w' => in5_is z 1 12 false w' (by simpa using hz)
    clear hlen hR e hp
    go_enter Tryz.func25, Tryz.ntmps25
    go_wp2_with fail
    refine (HP.out _ hi).mono ?_
    rintro e w1 ⟨rfl, hb1⟩
    have c0 := cell_later hb1 c0
    have c1 := cell_later hb1 c1
    go_wp2_with fail
    refine (CI.out _).mono ?_
    rintro e w2 ⟨rfl, rfl⟩
    go_wp2
    go_ret
    exact ⟨rfl, hb1⟩
  have CI : Hid _ := fun w' => in5_is z 1 12 true w' (by simpa using hz)
  by_cases hn : z < (n : Int)
  · have e : R = 2 := by rw [hR, tabF, if_neg (by simp [hp]), if_neg (by omega), if_pos (by omega)]
    rw [e]
    clear hlen hR e hp
    go_enter Tryz.func25, Tryz.ntmps25
    go_wp2_with fail
    refine (HP.out _ hi).mono ?_
    rintro e w1 ⟨rfl, hb1⟩
    have c0 := cell_later hb1 c0
    have c1 := cell_later hb1 c1
    go_wp2_with fail
    refine (CI.out _).mono ?_
    rintro e w2 ⟨rfl, rfl⟩
    go_wp2
    go_ret
    exact ⟨rfl, hb1⟩
  have hn' : ¬ z < (n : Int) := hn
  have hR2 : R = if stateGo cs n ts ≠ 0 then stateGo cs n ts else if Lone ts then 0 else 6 := by
    rw [hR, tabF, if_neg (by simp [hp]), if_neg (by omega), if_neg (by omega), hlen]
  have HR := hid hR2
  have HL := hid hlen
  have hn12 : n ≤ 12 := by omega
  clear hR2 hR hlen hp
  go_enter Tryz.func25, Tryz.ntmps25
  go_wp2_with fail
  refine (HP.out _ hi).mono ?_
  rintro e w1 ⟨rfl, hb1⟩
  have c0 := cell_later hb1 c0
  have c1 := cell_later hb1 c1
  have ht1 := ht.below hb1
  have hi1 := hi.below hb1
  have HB1 := hid hb1
  clear ht hi hb1
  go_wp2_with fail
  refine (CI.out _).mono ?_
  rintro e w2 ⟨rfl, rfl⟩
  go_wp2
  go_loopw [7] (fun i wr => ∃ k : Nat, k ≤ n ∧ i = .int .i64 k ∧ Below w2.heap.size w2 wr ∧ Hid (stateGo cs n (ts.drop k) = stateGo cs n ts)) (fun i _ => n - (intOf i).toNat)
  case atStart => exact ⟨0, Nat.zero_le _, rfl, Below.refl _ _, (rfl : stateGo cs n (ts.drop 0) = stateGo cs n ts)⟩
  case round =>
    obtain ⟨k, hk, rfl, hbw, hg⟩ := hrel
    have e0 := cell_later hbw c0
    have e1 := cell_later hbw c1
    by_cases hlt : k < n
    · obtain ⟨b1, o1, q, cq, r, cr, ss, az, ea, hx, d0, d1, r1, r2, -, -⟩ := (ht1.below hbw).at hlt
      subst ea
      have hg2 := hg.out
      rw [stateGo_at hx] at hg2
      have hs1 := stN_succ hx
      have hs2 := stN_take ts (k + 1)
      rw [hs1] at hs2
      have hlt' : (k : Int) < (n : Int) := by omega
      have CS := fun w' h1 h2 => l7Set_any i ni ci cs q ss.length cq ss w' h1 h2 hsi hni (by omega)
      by_cases hf : setFault cs ss = 0
      case neg =>
        have e : stateF cs n (ss, az) = setFault cs ss := by rw [stateF, if_pos hf]
        rw [e, if_pos hf] at hg2
        generalize setFault cs ss = F at *
        have hf' : (F == 0) = false := by simpa using hf
        have HCS := hid CS
        have hR3 := HR.out
        rw [← hg2, if_pos hf] at hR3
        have HI := hid (hi1.below hbw)
        have HR1 := hid r1
        clear hg hg2 hx hs1 CS e r1 r2
        go_wp2_with fail
        refine (HCS.out _ HI.out HR1.out).mono ?_
        rintro e w3 ⟨rfl, hb3⟩
        go_wp2
        go_ret
        exact ⟨ret_int hR3.symm, HB1.out.trans ((hbw.trans (hb3.mono hbw.size)).mono HB1.out.size)⟩
      rw [hf] at CS
      have e : stateF cs n (ss, az) = arcsF n az := by rw [stateF, if_neg (by simpa using hf)]
      rw [e] at hg2
      have HCS := hid CS
      have HI := hid (hi1.below hbw)
      have HR1 := hid r1
      have HR2 := hid r2
      have hal : az.length ≤ 1048576 := by omega
      have CA := fun w' h1 h2 => l8Arcs_any b1 (o1 + k * 2) r cr az n w' h1 h2 hal (by omega) (by omega)
      clear hg hx hs1 CS e r1 r2 hf
      by_cases hf : arcsF n az = 0
      case neg =>
        rw [if_pos hf] at hg2
        generalize arcsF n az = F at *
        have hf' : (F == 0) = false := by simpa using hf
        have HCA := hid CA
        have hR3 := HR.out
        rw [← hg2, if_pos hf] at hR3
        clear hg2 CA
        go_wp2_with fail
        refine (HCS.out _ HI.out HR1.out).mono ?_
        rintro e w3 ⟨rfl, hb3⟩
        have e0 := cell_later hb3 e0
        have e1 := cell_later hb3 e1
        have d1 := cell_later hb3 d1
        have HR2 := hid (HR2.out.below hb3)
        go_wp2_with fail
        refine (HCA.out _ d1 HR2.out).mono ?_
        rintro e w4 ⟨rfl, d, rfl⟩
        go_wp2
        go_ret
        exact ⟨ret_int hR3.symm, below_drewN (HB1.out.trans ((hbw.trans (hb3.mono hbw.size)).mono HB1.out.size)) d⟩
      rw [hf] at CA hg2
      simp only [ne_eq, not_true_eq_false, if_false] at hg2
      have HCA := hid CA
      have HG := hid hg2
      clear CA hg2 hf
      go_wp2_with fail
      refine (HCS.out _ HI.out HR1.out).mono ?_
      rintro e w3 ⟨rfl, hb3⟩
      have e0 := cell_later hb3 e0
      have e1 := cell_later hb3 e1
      have d1 := cell_later hb3 d1
      have HR2 := hid (HR2.out.below hb3)
      go_wp2_with fail
      refine (HCA.out _ d1 HR2.out).mono ?_
      rintro e w4 ⟨rfl, d, rfl⟩
      go_wp2
      go_roundw
      case rel => exact ⟨k + 1, by omega, by go_num, below_drewN (hbw.trans (hb3.mono hbw.size)) d, HG⟩
      case measure => simp [intOf]; omega
    · have hg2 := hg.out
      rw [List.drop_of_length_le (by rw [HL.out]; omega)] at hg2
      have hR3 := HR.out
      rw [← hg2] at hR3
      have h4 : R = if Lone ts then 0 else 6 := by
        have : stateGo cs n [] = 0 := rfl
        rw [this] at hR3
        simpa using hR3
      have HR4 := hid h4
      have HT2 := hid (ht1.below hbw)
      have HBW := hid hbw
      clear hg hg2 hR3 HR h4
      go_wp2
      go_loopw [10] (fun i wq => ∃ j d : Nat, j ≤ n ∧ i = .int .i64 j ∧ wq = wr.drewN d ∧ Hid (Lone (ts.take j))) (fun i _ => n - (intOf i).toNat)
      case atStart => exact ⟨0, 0, Nat.zero_le _, rfl, rfl, (by simp [Lone] : Lone (ts.take 0))⟩
      case round =>
        obtain ⟨j, d, hj, rfl, rfl, hl⟩ := hrel
        by_cases hjn : j < n
        · obtain ⟨b1, o1, q, cq, r, cr, ss, az, ea, hx, d0, d1, r1, r2, -, -⟩ := HT2.out.at hjn
          subst ea
          have hs1 := stN_succ hx
          have hs2 := stN_take ts (j + 1)
          rw [hs1] at hs2
          have hse := tAt_self hx
          have hlo := lone_take hx
          have hjn' : (j : Int) < (n : Int) := by omega
          have HCT := hid (fun (d : Nat) => l8At_any b (some ⟨b1, o1, none⟩) n ca ts q ss.length cq ss (wr.drewN d) e1 (HT2.out.below (below_drewN (Below.refl _ _) d)) (r1.drewN d) hs (by omega))
          clear hs1 hs2 hx r1 r2
          simp only at hse hlo
          by_cases hm : ss ∈ (ts.take j).map (·.1)
          · have hne : ¬ tAt ts ss = (j : Int) := fun e => (hse.1 e) hm
            have hR5 := HR4.out
            rw [if_neg (fun h => (hlo.1 (lone_less h)).2 hm)] at hR5
            have hne' : (tAt ts ss == (j : Int)) = false := by simpa using hne
            generalize tAt ts ss = T at *
            clear hse hlo hm hne hl HR4
            go_wp2_with fail
            refine (HCT.out _).mono ?_
            rintro e w3 ⟨rfl, d', rfl⟩
            go_wp2
            go_ret
            exact ⟨ret_int hR5.symm, HB1.out.trans ((below_drewN HBW.out (d + d')).mono HB1.out.size)⟩
          · have heq := hse.2 hm
            have hl2 := hid (hlo.2 ⟨hl.out, hm⟩)
            have heq' : (tAt ts ss == (j : Int)) = true := by simpa using heq
            generalize tAt ts ss = T at *
            clear hse hlo hm hl heq
            go_wp2_with fail
            refine (HCT.out _).mono ?_
            rintro e w3 ⟨rfl, d', rfl⟩
            go_wp2
            go_roundw
            case rel => exact ⟨j + 1, _, by omega, by go_num, by first | rfl | exact World.drewN_drewN _ _ _, hl2⟩
            case measure => simp [intOf]; omega
        · have hl2 := hl.out
          rw [List.take_of_length_le (by rw [HL.out]; omega)] at hl2
          have hR5 := HR4.out
          rw [if_pos hl2] at hR5
          clear hl hl2 HR4
          go_wp2
          go_ret
          exact ⟨ret_int hR5.symm, HB1.out.trans ((below_drewN HBW.out d).mono HB1.out.size)⟩

end Go.Proofs.YtlemdjgpkmjihaaGreat