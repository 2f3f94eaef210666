/-
  Chapter 7: the specification's sets: l7Close, l7Step, l7Done.
-/
import Derived.Test.YtppielcpidcmaaaSet6
import Derived.Test.YtppielcpidcmaaaSetB
namespace Go.Proofs.Ytppielcpidcmaaa
open Go.RowKit
set_option linter.unusedVariables false
set_option linter.unusedSimpArgs false

theorem infoB : (Try.prog.info? 4).map (fun i => (i.zero, i.size, i.bytes)) = some (some (.bool false), 1, 1) := by kernel_rfl

theorem madeB (n : Nat) : (madeCells #[Value.bool false] (n * 1)).toList = (List.replicate n false).flatMap bE := by
  rw [Nat.mul_one]
  apply List.ext_getElem?
  intro j
  by_cases hj : j < n
  · have h := getElem?_flatMap bE 1 bE_len (List.replicate n false) j 0 false (by simp [hj]) (by omega)
    rw [Nat.mul_one, Nat.add_zero] at h
    rw [h]
    simp [madeCells, hj, bE, Nat.mod_one]
  · have h2 := length_flatMap' bE 1 bE_len (List.replicate n false)
    rw [List.getElem?_eq_none (by simp [madeCells]; omega), List.getElem?_eq_none (by rw [h2]; simp; omega)]

theorem dfsAll_take {tg : In → Option Nat × Option Nat} {is : List In} {bs : List Bool} {xs : List Int} {k : Nat} (h : k < xs.length) : dfsAll tg is bs (xs.take (k + 1)) = dfs tg is 81 (dfsAll tg is bs (xs.take k)) (xs.getD k 0).toNat := by
  unfold dfsAll
  rw [List.take_succ_eq_append_getElem h, List.foldl_append, List.foldl_cons, List.foldl_nil, List.getD_eq_getElem?_getD, List.getElem?_eq_getElem h, Option.getD_some]

theorem getD_mem' {xs : List Int} {k : Nat} (h : k < xs.length) : xs.getD k 0 ∈ xs := by
  rw [List.getD_eq_getElem?_getD, List.getElem?_eq_getElem h, Option.getD_some]
  exact List.getElem_mem h

set_option maxHeartbeats 3200000 in
set_option maxRecDepth 20000 in
theorem l7Close_any (a : Option Addr) (n ca : Nat) (is : List In) (x : Option Addr) (m cx : Nat) (xs : List Int) (b e : Bool) (hin : Inside is) (h1 : 1 ≤ n) (h2 : n ≤ 80) (hm : m ≤ 1048576) (hxs : ∀ q ∈ xs, 0 ≤ q ∧ q < n) (w : World) (ha : RdR inE 8 w a n is) (hx : Rd .i64 w x m xs) :
    Calls Try.prog 102 #[.slice a n ca, .slice x m cx, .bool b, .bool e] w fun r w' => ∃ v, r = .returned v ∧ Own .i64 2 w' w.heap.size v (placesOf (closeS is b e xs)).length (placesOf (closeS is b e xs)) ∧ Below w.heap.size w w' := by
  obtain ⟨i0, hi, hz0, hz1, hz2⟩ := info_parts infoB
  have HLN : Hid _ := ha.1
  have HLX : Hid _ := hx.1
  have HXS : Hid _ := hxs
  have HG : Hid _ := (goes_of hin b e).2
  clear hxs
  go_enter Try.func102, Try.ntmps102
  go_wp2_with (at_make; refine wpList_make_full _ rfl _ _ 156 rfl w.heap.size 4 i0 (.bool false) 1 Try.underlying156 hi hz0 hz1 _ _ _ _ n rfl rfl rfl rfl (by rw [hz2]; omega) (by unfold maxLen; omega) (Nat.le_refl _) ?_)
  intro w1 hown1 hgrow1
  have ho1 : OwnR bE 1 4 w1 w.heap.size (.slice (some ⟨w.heap.size, 0, none⟩) n n) n (List.replicate n false) := by
    refine ⟨by simp, ?_⟩
    rw [← madeB]
    simpa [Value.cells] using hown1
  have hb1 : Below w.heap.size w w1 := (Below.refl _ _).grown hgrow1 (Nat.le_refl _) (by simp)
  have HO1 : Hid (OwnR bE 1 4 w1 w.heap.size (.slice (some ⟨w.heap.size, 0, none⟩) n n) n (dfsAll (tgS b e) is (List.replicate n false) (xs.take 0))) := ho1
  clear hown1 hgrow1 ho1
  go_wp2
  go_loopw [10] (fun i wr => ∃ k : Nat, k ≤ m ∧ i = .int .i64 k ∧ Hid (OwnR bE 1 4 wr w.heap.size (.slice (some ⟨w.heap.size, 0, none⟩) n n) n (dfsAll (tgS b e) is (List.replicate n false) (xs.take k))) ∧ Below w.heap.size w wr) (fun i _ => m - (intOf i).toNat)
  case atStart => exact ⟨0, Nat.zero_le _, rfl, HO1, hb1⟩
  case round =>
    obtain ⟨k, hk, rfl, HO, hbw⟩ := hrel
    clear HO1 hb1
    by_cases hlt : k < m
    · have hlt' : (k : Int) < (m : Int) := by omega
      have hkx : k < xs.length := by rw [HLX.out]; exact hlt
      obtain ⟨b1, o1, rfl, hc1⟩ := (hx.below hbw).at hlt
      have ck := hc1 k hlt
      have hq := HXS.out _ (getD_mem' hkx)
      have hnext := dfsAll_take (tg := tgS b e) (is := is) (bs := List.replicate n false) hkx
      have hl := HO.out.1
      have hu := unM_le (dfsAll (tgS b e) is (List.replicate n false) (xs.take k))
      have hC := fun w' h h' => l7Reach_any w a n ca is ha b e hin w.heap.size n 81 (dfsAll (tgS b e) is (List.replicate n false) (xs.take k)) (xs.getD k 0).toNat w' (by omega) (by omega) h h'
      rw [← hnext] at hC
      have e2 : (((xs.getD k 0).toNat : Nat) : Int) = xs.getD k 0 := by omega
      rw [e2] at hC
      generalize xs.getD k 0 = q at ck hC
      have HC : Hid _ := hC
      clear hc1 hq hnext hl hu hC e2
      go_wp2_with fail
      refine (HC.out _ HO.out hbw).mono ?_
      rintro r w2 ⟨rfl, ho2, hb2⟩
      have HO2 : Hid _ := ho2
      clear ho2
      go_wp2
      go_roundw
      case rel => exact ⟨k + 1, by omega, by go_num, HO2, hb2⟩
      case measure => simp [intOf]; omega
    · obtain rfl : k = m := by omega
      have hO := HO.out
      rw [List.take_of_length_le (by rw [HLX.out]; omega)] at hO
      have HP : Hid _ := l7Places_any (some ⟨w.heap.size, 0, none⟩) n n _ wr (hO.read bE_len) (by omega)
      have e3 : closeS is b e xs = dfsAll (tgS b e) is (List.replicate n false) xs := by unfold closeS; rw [HLN.out]
      have HE : Hid _ := e3
      clear HO hO e3
      go_wp2_with fail
      refine Calls.mono HP.out ?_
      rintro r w2 ⟨v, rfl, ho2, hb2⟩
      go_wp2
      go_ret
      rw [HE.out]
      exact ⟨_, rfl, ho2.up hbw.size, hbw.trans (hb2.mono hbw.size)⟩

theorem stepFold_take {is : List In} {d : Int} {bs : List Bool} {xs : List Int} {k : Nat} (h : k < xs.length) : (xs.take (k + 1)).foldl (stepGo is d) bs = stepGo is d ((xs.take k).foldl (stepGo is d) bs) (xs.getD k 0) := by
  rw [List.take_succ_eq_append_getElem h, List.foldl_append, List.foldl_cons, List.foldl_nil, List.getD_eq_getElem?_getD, List.getElem?_eq_getElem h, Option.getD_some]

set_option maxHeartbeats 3200000 in
set_option maxRecDepth 20000 in
theorem l7Step_any (a : Option Addr) (n ca : Nat) (is : List In) (x : Option Addr) (m cx : Nat) (xs : List Int) (d : Int) (hd0 : 0 ≤ d) (hd1 : d < 256) (hin : Inside is) (hs : inSum is ≤ 1048576) (h1 : 1 ≤ n) (h2 : n ≤ 80) (hm : m ≤ 1048576) (hxs : ∀ q ∈ xs, 0 ≤ q ∧ q < n) (w : World) (ha : RdR inE 8 w a n is) (hx : Rd .i64 w x m xs) :
    Calls Try.prog 104 #[.slice a n ca, .slice x m cx, .int .u8 d] w fun r w' => ∃ v, r = .returned v ∧ Own .i64 2 w' w.heap.size v (placesOf (stepS is d xs)).length (placesOf (stepS is d xs)) ∧ Below w.heap.size w w' := by
  obtain ⟨i0, hi, hz0, hz1, hz2⟩ := info_parts infoB
  have HLN : Hid _ := ha.1
  have HLX : Hid _ := hx.1
  have HXS : Hid _ := hxs
  have HSS : Hid _ := hs
  clear hxs hs
  go_enter Try.func104, Try.ntmps104
  go_wp2_with (at_make; refine wpList_make_full _ rfl _ _ 156 rfl w.heap.size 4 i0 (.bool false) 1 Try.underlying156 hi hz0 hz1 _ _ _ _ n rfl rfl rfl rfl (by rw [hz2]; omega) (by unfold maxLen; omega) (Nat.le_refl _) ?_)
  intro w1 hown1 hgrow1
  have ho1 : OwnR bE 1 4 w1 w.heap.size (.slice (some ⟨w.heap.size, 0, none⟩) n n) n (List.replicate n false) := by
    refine ⟨by simp, ?_⟩
    rw [← madeB]
    simpa [Value.cells] using hown1
  have hb1 : Below w.heap.size w w1 := (Below.refl _ _).grown hgrow1 (Nat.le_refl _) (by simp)
  have HO1 : Hid (OwnR bE 1 4 w1 w.heap.size (.slice (some ⟨w.heap.size, 0, none⟩) n n) n ((xs.take 0).foldl (stepGo is d) (List.replicate n false))) := ho1
  clear hown1 hgrow1 ho1
  go_wp2
  go_loopw [8] (fun i wr => ∃ k : Nat, k ≤ m ∧ i = .int .i64 k ∧ Hid (OwnR bE 1 4 wr w.heap.size (.slice (some ⟨w.heap.size, 0, none⟩) n n) n ((xs.take k).foldl (stepGo is d) (List.replicate n false))) ∧ Below w.heap.size w wr) (fun i _ => m - (intOf i).toNat)
  case atStart => exact ⟨0, Nat.zero_le _, rfl, HO1, hb1⟩
  case round =>
    obtain ⟨k, hk, rfl, HO, hbw⟩ := hrel
    clear HO1 hb1
    by_cases hlt : k < m
    · have hlt' : (k : Int) < (m : Int) := by omega
      have hkx : k < xs.length := by rw [HLX.out]; exact hlt
      obtain ⟨b2, o2, rfl, hc2⟩ := (hx.below hbw).at hlt
      have ck := hc2 k hlt
      have hq := HXS.out _ (getD_mem' hkx)
      have HN : Hid _ := stepFold_take (is := is) (d := d) (bs := List.replicate n false) hkx
      clear hc2 hkx
      generalize xs.getD k 0 = Q at ck hq HN
      obtain ⟨q, rfl⟩ : ∃ q : Nat, Q = (q : Int) := ⟨Q.toNat, by omega⟩
      have hqn : q < n := by omega
      have hqn' : (q : Int) < (n : Int) := by omega
      obtain ⟨b1, o1, i, rfl, hxi, hc1⟩ := (ha.below hbw).at hqn
      obtain ⟨c0, c1, c2, c3, c4, c5, c6, c7⟩ := eight hc1
      have hI := hin i (List.mem_of_getElem? hxi)
      have hsz := inSum_at (List.mem_of_getElem? hxi)
      have hss := HSS.out
      have hgo := stepGo_at (d := d) (b := (xs.take k).foldl (stepGo is d) (List.replicate n false)) hxi
      have HH : Hid _ := l5Byte_any b1 (o1 + q * 8 + 1) i.nd d wr (show i.s.size ≤ 1073741824 by omega) c1 c2 c3 hd0 hd1
      rw [← HN.out] at hgo
      have hlO := HO.out.1
      clear hq HN hxi hc1 hsz hss
      obtain ⟨B2, hB2⟩ : ∃ B2, (xs.take (k + 1)).foldl (stepGo is d) (List.replicate n false) = B2 := ⟨_, rfl⟩
      rw [hB2] at hgo
      have HB2 : Hid _ := hB2
      clear hB2
      generalize (xs.take k).foldl (stepGo is d) (List.replicate n false) = B1 at hgo HO hlO
      obtain ⟨o, kk, c, s, l, r, x, y⟩ := i
      simp only [In.nd] at c0 c1 c2 c3 c4 c5 c6 c7 HH hI
      obtain ⟨⟨hx0, hxn⟩, -⟩ := hI
      obtain ⟨xn, rfl⟩ : ∃ p : Nat, x = (p : Int) := ⟨x.toNat, by omega⟩
      have hxn' : xn < n := by have := HLN.out; omega
      by_cases ho : o = 1
      case neg =>
        have ho' : (o == 1) = false := by simpa using ho
        rw [if_neg (fun h => ho h.1)] at hgo
        rw [← hgo] at HO
        clear hgo HH
        go_wp2
        go_roundw
        case rel => exact ⟨k + 1, by omega, by go_num, (by rw [HB2.out]; exact HO), hbw⟩
        case measure => simp [intOf]; omega
      subst ho
      obtain ⟨H, hH⟩ : ∃ H, H = hasB ⟨kk, c, s, l, r⟩ d := ⟨_, rfl⟩
      rw [← hH] at HH
      have hgo2 : B2 = if H = true then B1.set xn true else B1 := by rw [hgo, hH]; simp [In.nd]
      clear hgo hH
      cases H
      · have hgo3 : B2 = B1 := by rw [hgo2]; rfl
        rw [← hgo3] at HO
        clear hgo2 hgo3
        go_wp2_with fail
        refine Calls.mono HH.out ?_
        rintro r' w2 ⟨rfl, hb2⟩
        have HO2 : Hid (OwnR bE 1 4 w2 w.heap.size (.slice (some ⟨w.heap.size, 0, none⟩) n n) n B2) := HO.out.below hb2
        have hb02 := hbw.trans (hb2.mono hbw.size)
        clear hb2
        go_wp2
        go_roundw
        case rel => exact ⟨k + 1, by omega, by go_num, (by rw [HB2.out]; exact HO2), hb02⟩
        case measure => simp [intOf]; omega
      · have hgo3 : B2 = B1.set xn true := by rw [hgo2]; rfl
        have hxn2 : (xn : Int) < (n : Int) := by omega
        go_wp2_with fail
        refine Calls.mono HH.out ?_
        rintro r' w2 ⟨rfl, hb2⟩
        have hO2 : OwnR bE 1 4 w2 w.heap.size (.slice (some ⟨w.heap.size, 0, none⟩) n n) n B1 := HO.out.below hb2
        have hb02 := hbw.trans (hb2.mono hbw.size)
        have ci := cell_later hb2 c6
        have hcell := OwnR.cell (f := 0) bE_len hO2 (getD_of (bs := B1) (p := xn) (by rw [hlO]; exact hxn')) rfl
        have hfr := hO2.frozen xn
        have hst := OwnR.store (f := 0) (u := .bool true) (y := true) bE_len hO2 (getD_of (bs := B1) (p := xn) (by rw [hlO]; exact hxn')) (by omega) rfl
        rw [Nat.mul_one, Nat.add_zero] at hcell hst
        rw [← hgo3] at hst
        have HO2 : Hid _ := hst.1
        have hb03 : Below w.heap.size w (w2.setCell ⟨w.heap.size, xn, none⟩ (.bool true)) := hb02.setCell (Nat.le_refl _) _
        generalize B1.getD xn false = bb at hcell
        clear hb2 hO2 hst hgo2 hgo3 hb02
        go_wp2
        go_roundw
        case rel => exact ⟨k + 1, by omega, by go_num, (by rw [HB2.out]; exact HO2), hb03⟩
        case measure => simp [intOf]; omega
    · obtain rfl : k = m := by omega
      have hO := HO.out
      rw [List.take_of_length_le (by rw [HLX.out]; omega)] at hO
      have HP : Hid _ := l7Places_any (some ⟨w.heap.size, 0, none⟩) n n _ wr (hO.read bE_len) (by omega)
      have e3 : stepS is d xs = xs.foldl (stepGo is d) (List.replicate n false) := by unfold stepS; rw [HLN.out]
      have HE : Hid _ := e3
      clear HO hO e3
      go_wp2_with fail
      refine Calls.mono HP.out ?_
      rintro r w2 ⟨v, rfl, ho2, hb2⟩
      go_wp2
      go_ret
      rw [HE.out]
      exact ⟨_, rfl, ho2.up hbw.size, hbw.trans (hb2.mono hbw.size)⟩

set_option maxHeartbeats 1600000 in
set_option maxRecDepth 20000 in
theorem l7Done_any (a : Option Addr) (n ca : Nat) (is : List In) (x : Option Addr) (m cx : Nat) (xs : List Int) (h2 : n ≤ 80) (hm : m ≤ 1048576) (hxs : ∀ q ∈ xs, 0 ≤ q ∧ q < n) (w : World) (ha : RdR inE 8 w a n is) (hx : Rd .i64 w x m xs) :
    Calls Try.prog 103 #[.slice a n ca, .slice x m cx] w fun r w' => r = .returned (.bool (doneL is xs)) ∧ Below w.heap.size w w' := by
  obtain ⟨R, hR⟩ : ∃ R, R = doneL is xs := ⟨_, rfl⟩
  rw [← hR]
  have HR : Hid _ := hR
  have HLX : Hid _ := hx.1
  have HXS : Hid _ := hxs
  clear hR hxs
  go_enter Try.func103, Try.ntmps103
  go_wp2
  go_loopw [5] (fun i wr => ∃ k : Nat, k ≤ m ∧ i = .int .i64 k ∧ Hid (doneL is (xs.take k) = false) ∧ Below w.heap.size w wr) (fun i _ => m - (intOf i).toNat)
  case atStart => exact ⟨0, Nat.zero_le _, rfl, (rfl : doneL is (xs.take 0) = false), Below.refl _ _⟩
  case round =>
    obtain ⟨k, hk, rfl, HD, hbw⟩ := hrel
    by_cases hlt : k < m
    · have hlt' : (k : Int) < (m : Int) := by omega
      have hkx : k < xs.length := by rw [HLX.out]; exact hlt
      obtain ⟨b2, o2, rfl, hc2⟩ := (hx.below hbw).at hlt
      have ck := hc2 k hlt
      have hmem := getD_mem' hkx
      have hq := HXS.out _ hmem
      have hnx : doneL is (xs.take (k + 1)) = isDn is (xs.getD k 0) := by
        have hd := HD.out
        unfold doneL at hd ⊢
        rw [List.take_succ_eq_append_getElem hkx, List.any_append, hd, List.getD_eq_getElem?_getD, List.getElem?_eq_getElem hkx]
        simp
      clear hc2 hkx
      generalize xs.getD k 0 = Q at ck hq hnx hmem
      obtain ⟨q, rfl⟩ : ∃ q : Nat, Q = (q : Int) := ⟨Q.toNat, by omega⟩
      have hqn : q < n := by omega
      have hqn' : (q : Int) < (n : Int) := by omega
      obtain ⟨b1, o1, i, rfl, hxi, hc1⟩ := (ha.below hbw).at hqn
      obtain ⟨c0, c1, c2, c3, c4, c5, c6, c7⟩ := eight hc1
      have hdn := isDn_at hxi
      rw [hdn] at hnx
      have HM : Hid _ := And.intro hmem hdn
      clear hxi hc1 hq hmem hdn HD
      obtain ⟨o, kk, c, s, l, r, x, y⟩ := i
      simp only at c0 c1 c2 c3 c4 c5 c6 c7 hnx HM
      by_cases ho : o = 6
      · subst ho
        have hfin : true = R := by
          rw [HR.out]
          unfold doneL
          rw [eq_comm, List.any_eq_true]
          exact ⟨(q : Int), HM.out.1, by rw [HM.out.2]; rfl⟩
        clear hnx HM HR
        subst hfin
        go_wp2
        go_ret
        exact ⟨rfl, hbw⟩
      · have ho' : (o == 6) = false := by simpa using ho
        rw [decide_eq_false ho] at hnx
        have HD2 : Hid (doneL is (xs.take (k + 1)) = false) := hnx
        clear hnx HM
        go_wp2
        go_roundw
        case rel => exact ⟨k + 1, by omega, by go_num, HD2, hbw⟩
        case measure => simp [intOf]; omega
    · obtain rfl : k = m := by omega
      have hd := HD.out
      rw [List.take_of_length_le (by rw [HLX.out]; omega)] at hd
      have hfin : false = R := by rw [HR.out, hd]
      clear HR hd HD
      subst hfin
      go_wp2
      go_ret
      exact ⟨rfl, hbw⟩
end Go.Proofs.Ytppielcpidcmaaa
