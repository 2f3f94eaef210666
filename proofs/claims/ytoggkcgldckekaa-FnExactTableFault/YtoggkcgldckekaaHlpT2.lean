/-
  Contracts of the exact laws' helpers over tables: comparisons, marks.
-/
import Derived.Test.YtoggkcgldckekaaHlpT
namespace Go.Proofs.Ytoggkcgldckekaa
open Go.RowKit
set_option linter.unusedVariables false
set_option linter.unusedSimpArgs false

theorem eqArc_yes (x y : Int) (w : World) :
    Calls Try.prog 154 #[.agg #[.int .i64 x, .int .i64 y], .agg #[.int .i64 x, .int .i64 y]] w fun e w' => e = .returned (.bool true) ∧ Below w.heap.size w w' := by
  go_enter Try.func154, Try.ntmps154
  go_wp2
  go_ret
  exact ⟨rfl, ((Below.refl _ _).alloc (Nat.le_refl _) _).alloc (by simp) _⟩

set_option maxHeartbeats 800000 in
theorem eqArcS_yes (a b : Option Addr) (n ca cb : Nat) (cs : List L2) (w : World) (ha : RdR lineE 2 w a n cs) (hb : RdR lineE 2 w b n cs) (h1 : n ≤ 1073741824) :
    Calls Try.prog 141 #[.slice a n ca, .slice b n cb] w fun e w' => e = .returned (.bool true) ∧ Below w.heap.size w w' := by
  go_enter Try.func141, Try.ntmps141
  go_wp2
  go_loopw [5] (fun i wr => ∃ k : Nat, k ≤ n ∧ i = .int .i64 k ∧ Below w.heap.size w wr) (fun i _ => n - (intOf i).toNat)
  case atStart => exact ⟨0, Nat.zero_le _, rfl, Below.refl _ _⟩
  case round =>
    obtain ⟨k, hk, rfl, hbw⟩ := hrel
    by_cases hlt : k < n
    · obtain ⟨b1, o1, c, rfl, hx, hc1⟩ := (ha.below hbw).at hlt
      obtain ⟨b2, o2, c', rfl, hx', hc2⟩ := (hb.below hbw).at hlt
      obtain rfl : c = c' := by rw [hx] at hx'; simpa using hx'
      obtain ⟨c0, c1⟩ := two hc1
      obtain ⟨e0, e1⟩ := two hc2
      clear hx hx' hc1 hc2
      obtain ⟨x, y⟩ := c
      simp only at c0 c1 e0 e1
      have hlt' : (k : Int) < (n : Int) := by omega
      go_wp2
      go_region_with (go_at_call 154; refine (eqArc_yes x y _).mono ?_; rintro e w2 ⟨rfl, hb2⟩)
      all_goals
        go_wp2
        go_roundw
        case rel => exact ⟨k + 1, by omega, by go_num, hbw.drew.trans (hb2.mono hbw.size)⟩
        case measure => simp [intOf]; omega
    · go_wp2
      go_ret
      exact ⟨rfl, hbw⟩

set_option maxHeartbeats 800000 in
theorem eqSetState_yes (p p' q q' : Option Addr) (cp cp' cq cq' : Nat) (ss : List Int) (az : List L2) (w : World) (h1 : Rd .i64 w p ss.length ss) (h2 : Rd .i64 w p' ss.length ss) (h3 : RdR lineE 2 w q az.length az) (h4 : RdR lineE 2 w q' az.length az) (l1 : ss.length ≤ maxLen) (l2 : az.length ≤ 1073741824) :
    Calls Try.prog 124 #[.agg #[.slice p ss.length cp, .slice q az.length cq], .agg #[.slice p' ss.length cp', .slice q' az.length cq']] w fun e w' => e = .returned (.bool true) ∧ Below w.heap.size w w' := by
  have B2 : ∀ o1 o2, Below w.heap.size w ((w.alloc o1).alloc o2) := fun o1 o2 => ((Below.refl _ _).alloc (Nat.le_refl _) o1).alloc (by simp) o2
  have L1 := hid l1
  clear l1
  go_enter Try.func124, Try.ntmps124
  go_wp2_with fail
  refine (eqInt64S_yes p p' ss.length cp cp' ss _ (h1.below (B2 _ _)) (h2.below (B2 _ _)) L1.out).mono ?_
  rintro e w1 ⟨rfl, hb1⟩
  have d0 : w1.cell? ⟨w.heap.size, 1, none⟩ = some (.slice q az.length cq) := cell_later hb1 (by simp [go_sem])
  have d1 : w1.cell? ⟨w.heap.size + 1, 1, none⟩ = some (.slice q' az.length cq') := cell_later hb1 (by simp [go_sem])
  have hb01 : Below w.heap.size w w1 := (B2 _ _).trans (hb1.mono (by simp; omega))
  clear hb1
  go_wp2_with fail
  refine (eqArcS_yes q q' az.length cq cq' az _ (h3.below hb01) (h4.below hb01) l2).mono ?_
  rintro e w2 ⟨rfl, hb2⟩
  go_wp2
  go_ret
  exact ⟨rfl, hb01.trans (hb2.mono hb01.size)⟩

set_option maxHeartbeats 1600000 in
theorem eqSetStateS_yes (a b : Option Addr) (n ca cb : Nat) (ts : List St) (w : World) (ha : RdT w a n ts) (hb : RdT w b n ts) (h1 : (n : Int) + stN ts ≤ 1073741824) :
    Calls Try.prog 92 #[.slice a n ca, .slice b n cb] w fun e w' => e = .returned (.bool true) ∧ Below w.heap.size w w' := by
  go_enter Try.func92, Try.ntmps92
  go_wp2
  go_loopw [5] (fun i wr => ∃ k : Nat, k ≤ n ∧ i = .int .i64 k ∧ Below w.heap.size w wr) (fun i _ => n - (intOf i).toNat)
  case atStart => exact ⟨0, Nat.zero_le _, rfl, Below.refl _ _⟩
  case round =>
    obtain ⟨k, hk, rfl, hbw⟩ := hrel
    by_cases hlt : k < n
    · obtain ⟨b1, o1, p, cp, q, cq, ss, az, rfl, hx, c0, c1, r1, r2, ⟨m1, m2⟩, -⟩ := (ha.below hbw).at hlt
      obtain ⟨b2, o2, p', cp', q', cq', ss', az', rfl, hx', c0', c1', r1', r2', -, -⟩ := (hb.below hbw).at hlt
      obtain ⟨rfl, rfl⟩ : ss = ss' ∧ az = az' := by rw [hx] at hx'; simpa using hx'
      have hs := stN_succ hx
      have ht := stN_take ts (k + 1)
      rw [hs] at ht
      have M1 := hid (Nat.le_trans m1 m2)
      have R1 := hid (r1.below (Below.refl _ _).drew)
      have R2 := hid (r2.below (Below.refl _ _).drew)
      have R3 := hid (r1'.below (Below.refl _ _).drew)
      have R4 := hid (r2'.below (Below.refl _ _).drew)
      have hal : az.length ≤ 1073741824 := by omega
      clear hx hx' m1 m2 r1 r2 r1' r2' hs ht
      have hlt' : (k : Int) < (n : Int) := by omega
      go_wp2
      go_region_with (go_at_call 124; refine (eqSetState_yes p p' q q' cp cp' cq cq' ss az _ R1.out R3.out R2.out R4.out M1.out hal).mono ?_; rintro e w2 ⟨rfl, hb2⟩)
      all_goals
        go_wp2
        go_roundw
        case rel => exact ⟨k + 1, by omega, by go_num, hbw.drew.trans (hb2.mono hbw.size)⟩
        case measure => simp [intOf]; omega
    · go_wp2
      go_ret
      exact ⟨rfl, hbw⟩

set_option maxHeartbeats 400000 in
theorem eqTable_yes (z : Int) (a b : Option Addr) (n ca cb : Nat) (ts : List St) (w : World) (ha : RdT w a n ts) (hb : RdT w b n ts) (h1 : (n : Int) + stN ts ≤ 1073741824) :
    Calls Try.prog 41 #[.agg #[.int .i64 z, .slice a n ca], .agg #[.int .i64 z, .slice b n cb]] w fun e w' => e = .returned (.bool true) ∧ Below w.heap.size w w' := by
  have B2 : ∀ o1 o2, Below w.heap.size w ((w.alloc o1).alloc o2) := fun o1 o2 => ((Below.refl _ _).alloc (Nat.le_refl _) o1).alloc (by simp) o2
  go_enter Try.func41, Try.ntmps41
  go_wp2_with fail
  refine (eqSetStateS_yes a b n ca cb ts _ (ha.below (B2 _ _)) (hb.below (B2 _ _)) h1).mono ?_
  rintro e w1 ⟨rfl, hb1⟩
  go_wp2
  go_ret
  exact ⟨rfl, (B2 _ _).trans (hb1.mono (by simp; omega))⟩

set_option maxHeartbeats 400000 in
theorem eqTableResult_yes (c v z : Int) (a b : Option Addr) (n ca cb : Nat) (ts : List St) (w : World) (ha : RdT w a n ts) (hb : RdT w b n ts) (h1 : (n : Int) + stN ts ≤ 1073741824) :
    Calls Try.prog 42 #[.agg #[.int .i64 c, .int .i64 v, .int .i64 z, .slice a n ca], .agg #[.int .i64 c, .int .i64 v, .int .i64 z, .slice b n cb]] w fun e w' => e = .returned (.bool true) ∧ Below w.heap.size w w' := by
  have B2 : ∀ o1 o2, Below w.heap.size w ((w.alloc o1).alloc o2) := fun o1 o2 => ((Below.refl _ _).alloc (Nat.le_refl _) o1).alloc (by simp) o2
  go_enter Try.func42, Try.ntmps42
  go_wp2_with fail
  refine (eqTable_yes z a b n ca cb ts _ (ha.below (B2 _ _)) (hb.below (B2 _ _)) h1).mono ?_
  rintro e w1 ⟨rfl, hb1⟩
  go_wp2
  go_ret
  exact ⟨rfl, (B2 _ _).trans (hb1.mono (by simp; omega))⟩

/-- Nothing is marked. -/
theorem markInt64S_none (a : Option Addr) (x0 : Int) (w : World) : Calls Try.prog 49 #[.slice a 0 0, .int .i64 x0] w fun e w' => e = .returned (.int .i64 x0) ∧ w' = w := by
  go_enter Try.func49, Try.ntmps49
  go_wp2
  refine wp_loop_rounds 1 ?_
  rw [rounds_succ]
  go_wp2
  go_ret
  exact ⟨rfl, rfl⟩

theorem markArcS_none (a : Option Addr) (x0 : Int) (w : World) : Calls Try.prog 126 #[.slice a 0 0, .int .i64 x0] w fun e w' => e = .returned (.int .i64 x0) ∧ w' = w := by
  go_enter Try.func126, Try.ntmps126
  go_wp2
  refine wp_loop_rounds 1 ?_
  rw [rounds_succ]
  go_wp2
  go_ret
  exact ⟨rfl, rfl⟩

set_option maxHeartbeats 800000 in
theorem markArcS_own (v : Value) (n base : Nat) (cs : List L2) (x0 : Int) (w : World) (hown : OwnR lineE 2 153 w base v n cs) (h1 : n ≤ 107374182) (h2 : 0 ≤ x0) (h3 : x0 ≤ 1073741824) :
    Calls Try.prog 126 #[v, .int .i64 x0] w fun e w' => e = .returned (.int .i64 (x0 + 2 * n)) ∧ OwnR lineE 2 153 w' base v n (mkL x0 n) ∧ w.grownBy w' v.ownBlock := by
  have hlen := hown.1
  rcases hown.2.2 with ⟨rfl, rfl⟩ | ⟨g, cap, cur, rfl, _⟩
  · go_enter Try.func126, Try.ntmps126
    go_wp2
    refine wp_loop_rounds 1 ?_
    rw [rounds_succ]
    go_wp2
    go_ret
    have hx : cs = [] := List.eq_nil_of_length_eq_zero hlen
    subst hx
    exact ⟨by simp, by simpa [mkL] using hown, World.grownBy.refl _ _⟩
  · go_enter Try.func126, Try.ntmps126
    go_wp2
    go_loopw [1, 5] (fun x i wr => ∃ k : Nat, k ≤ n ∧ i = .int .i64 k ∧ x = .int .i64 (x0 + 2 * k) ∧ OwnR lineE 2 153 wr base (.slice (some ⟨g, 0, none⟩) n cap) n (mkL x0 k ++ cs.drop k) ∧ w.grownBy wr (some g)) (fun _ i _ => n - (intOf i).toNat)
    case atStart => exact ⟨0, Nat.zero_le _, rfl, by go_num, by simpa [mkL] using hown, World.grownBy.refl _ _⟩
    case round =>
      obtain ⟨k, hk, rfl, rfl, ho, hg⟩ := hrel
      by_cases hlt : k < n
      · have hk' : k < cs.length := by omega
        have hold : (mkL x0 k ++ cs.drop k)[k]? = some cs[k] := by
          rw [List.getElem?_append_right (by rw [mkL_len]; omega), mkL_len, Nat.sub_self, List.drop_eq_getElem_cons hk']
          rfl
        generalize cs[k] = c at hold
        have d0 := OwnR.cell (f := 0) lineE_len ho hold rfl
        have d1 := OwnR.cell (f := 1) lineE_len ho hold rfl
        have f0 := ho.frozen (k * 2)
        have f1 := ho.frozen (k * 2 + 1)
        rw [Nat.add_zero] at d0
        have hst := store2 ho hold (x0 + 2 * (k : Int)) (x0 + 2 * (k : Int) + 1)
        rw [markL_set cs x0 n k hlen hlt c] at hst
        have HS : Hid _ := hst
        clear hst ho hold
        have hlt' : (k : Int) < (n : Int) := by omega
        go_wp2
        go_roundw
        case rel => exact ⟨k + 1, by omega, by go_num, by go_num, HS.out.1, grownBy_trans hg HS.out.2⟩
        case measure => simp [intOf]; omega
      · go_wp2
        go_ret
        obtain rfl : k = n := by omega
        refine ⟨rfl, ?_, hg⟩
        rw [List.drop_of_length_le (by omega), List.append_nil] at ho
        exact ho

/-- A row of integers, of arcs, that a state has. -/
theorem markInt64S_sub (weak : Bool) (s : Value × Option Nat) (lo hi : Nat) (xs : List Int) (x0 : Int) (w : World) (h : SubI weak .i64 2 w lo hi s xs) (h1 : xs.length ≤ 1073741824) (h2 : 0 ≤ x0) (h3 : x0 ≤ 1073741824) :
    Calls Try.prog 49 #[s.1, .int .i64 x0] w fun e w' => e = .returned (.int .i64 (x0 + xs.length)) ∧ SubI weak .i64 2 w' lo hi s (mkI x0 xs.length) ∧ w.grownBy w' s.2 := by
  rcases h with ⟨e2, e1, e3, a, e4, e5⟩ | ⟨g, cap, rfl, hh, ho⟩
  · rw [e4]
    have hx : xs = [] := List.eq_nil_of_length_eq_zero e1
    subst hx
    refine (markInt64S_none a x0 w).mono ?_
    rintro e w' ⟨rfl, rfl⟩
    exact ⟨by simp, .inl ⟨e2, by simp [mkI], by simp [mkI], a, e4, e5⟩, World.grownBy.refl _ _⟩
  · refine (markInt64S_own _ xs.length lo xs x0 w ho h1 h2 h3).mono ?_
    rintro e w' ⟨rfl, ho', hg⟩
    refine ⟨rfl, .inr ⟨g, cap, by rw [mkI_len], hh, ?_⟩, hg⟩
    rw [mkI_len]
    exact ho'

theorem markArcS_sub (weak : Bool) (s : Value × Option Nat) (lo hi : Nat) (xs : List L2) (x0 : Int) (w : World) (h : SubS weak lineE 2 153 w lo hi s xs) (h1 : xs.length ≤ 107374182) (h2 : 0 ≤ x0) (h3 : x0 ≤ 1073741824) :
    Calls Try.prog 126 #[s.1, .int .i64 x0] w fun e w' => e = .returned (.int .i64 (x0 + 2 * xs.length)) ∧ SubS weak lineE 2 153 w' lo hi s (mkL x0 xs.length) ∧ w.grownBy w' s.2 := by
  rcases h with ⟨e2, e1, e3, a, e4, e5⟩ | ⟨g, cap, rfl, hh, ho⟩
  · rw [e4]
    have hx : xs = [] := List.eq_nil_of_length_eq_zero e1
    subst hx
    refine (markArcS_none a x0 w).mono ?_
    rintro e w' ⟨rfl, rfl⟩
    exact ⟨by simp, .inl ⟨e2, by simp [mkL], by simp [mkL], a, e4, e5⟩, World.grownBy.refl _ _⟩
  · refine (markArcS_own _ xs.length lo xs x0 w ⟨rfl, ho⟩ h1 h2 h3).mono ?_
    rintro e w' ⟨rfl, ho', hg⟩
    refine ⟨rfl, .inr ⟨g, cap, by rw [mkL_len], hh, ?_⟩, hg⟩
    rw [mkL_len]
    exact ho'.2

set_option maxHeartbeats 1600000 in
theorem markSetStateS_row (weak : Bool) (v : Value) (n lo hi : Nat) (ts : List St) (x0 : Int) (w : World) (ho : RowT weak 55 2 153 w lo hi v n ts) (h1 : (n : Int) + stN ts ≤ 107374182) (h2 : 0 ≤ x0) (h3 : x0 ≤ 107374182) :
    Calls Try.prog 95 #[v, .int .i64 x0] w fun e w' => e = .returned (.int .i64 (x0 + stC ts)) ∧ RowT weak 55 2 153 w' lo hi v n (mkT x0 ts) ∧ Chg lo hi w w' := by
  have hlen := ho.len
  rcases ho.cases with ⟨rfl, rfl, rfl⟩ | ⟨g, cap, rfl, hglo, hghi, hgz⟩
  · go_enter Try.func95, Try.ntmps95
    go_wp2
    refine wp_loop_rounds 1 ?_
    rw [rounds_succ]
    go_wp2
    go_ret
    exact ⟨by simp [stC], by simpa [mkT] using ho, Chg.refl _ _ _⟩
  · have hcl := stC_le ts
    go_enter Try.func95, Try.ntmps95
    go_wp2
    go_loopw [1, 5] (fun x i wr => ∃ k : Nat, k ≤ n ∧ i = .int .i64 k ∧ x = .int .i64 (x0 + stC (ts.take k)) ∧ RowT weak 55 2 153 wr lo hi (.slice (some ⟨g, 0, none⟩) n cap) n (mkT x0 (ts.take k) ++ ts.drop k) ∧ Chg lo hi w wr) (fun _ i _ => n - (intOf i).toNat)
    case atStart => exact ⟨0, Nat.zero_le _, rfl, by simp [stC], by simpa [mkT] using ho, Chg.refl _ _ _⟩
    case round =>
      obtain ⟨k, hk, rfl, rfl, hr, hc⟩ := hrel
      by_cases hlt : k < n
      · have hk' : k < ts.length := by omega
        obtain ⟨ss, az, hx⟩ : ∃ ss az, ts[k]? = some (ss, az) := ⟨ts[k].1, ts[k].2, by simp [hk']⟩
        have hs := stN_succ hx
        have ht := stN_take ts (k + 1)
        have hcs := stC_succ hx
        have hct := stC_take ts (k + 1)
        have hmid := mkT_mid x0 hx
        have hset := mkT_set x0 hx
        obtain ⟨u, hu, hel, hback⟩ := RowN.elem (tabOk weak) suE_len hr hmid
        have d0 := hu 0 _ rfl
        have d1 := hu 1 _ rfl
        rw [Nat.add_zero] at d0
        obtain ⟨pa, pc, hp, -⟩ := SubV.shape hel.1
        obtain ⟨qa, qc, hq, -⟩ := SubV.shape hel.2
        have htw := hel.two ai_ne
        rw [hp] at d0
        rw [hq] at d1
        have HB := hid hback
        have HE := hid hset
        have HW := hid htw
        have HL := hid hel
        have HCS := hid hcs
        have hmlen : k < (mkT x0 (ts.take k) ++ ts.drop k).length := (List.getElem?_eq_some_iff.1 hmid).1
        have HML := hid hmlen
        clear hback hset hmid hx hu htw hel hmlen
        have hlt' : (k : Int) < (n : Int) := by omega
        go_wp2_with fail
        have CM := markInt64S_sub weak u.1 lo hi ss (x0 + stC (ts.take k)) wr HL.out.1 (by omega) (by omega) (by omega)
        rw [hp] at CM
        refine CM.mono ?_
        rintro e w2 ⟨rfl, hs2, hg2⟩
        have hel2 : StEl weak 2 153 w2 lo hi u (mkI (x0 + stC (ts.take k)) ss.length, az) :=
          ⟨hs2, SubV.kept HL.out.2 (fun b hb => hg2.block b (SubV.inn HL.out.2 b hb).2.2 (fun e => HW.out b e.symm hb))⟩
        have hr2 := HB.out w2 _ _ hg2 (fun b hb => (suB_mem u b).2 (.inl hb)) hel2
        have hc2 : Chg lo hi w w2 := hc.trans (Chg.of_grown hg2 (fun j hj => by have := SubV.inn HL.out.1 j hj; omega))
        obtain ⟨u', hu', hel', hback'⟩ := RowN.elem (tabOk weak) suE_len hr2 (j := k) (x := (mkI (x0 + stC (ts.take k)) ss.length, az)) (List.getElem?_set_self HML.out)
        have d1 := hu' 1 _ rfl
        obtain ⟨qa', qc', hq', -⟩ := SubV.shape hel'.2
        have htw' := hel'.two ai_ne
        rw [hq'] at d1
        have HB' := hid hback'
        have HW' := hid htw'
        have HL' := hid hel'
        have HC2 := hid hc2
        clear hback' hu' htw' hel' hr2 hc2 hel2 hs2 hg2 HB HW HL hr hc
        go_wp2_with fail
        have CM := markArcS_sub weak u'.2 lo hi az (x0 + stC (ts.take k) + ss.length) w2 HL'.out.2 (by omega) (by omega) (by omega)
        rw [hq'] at CM
        refine CM.mono ?_
        rintro e w3 ⟨rfl, hs3, hg3⟩
        have hel3 : StEl weak 2 153 w3 lo hi u' (mkI (x0 + stC (ts.take k)) ss.length, mkL (x0 + stC (ts.take k) + ss.length) az.length) :=
          ⟨SubV.kept HL'.out.1 (fun b hb => hg3.block b (SubV.inn HL'.out.1 b hb).2.2 (fun e => HW'.out b hb e.symm)), hs3⟩
        have hr3 := HB'.out w3 _ _ hg3 (fun b hb => (suB_mem u' b).2 (.inr hb)) hel3
        rw [List.set_set, HE.out] at hr3
        have hc3 : Chg lo hi w w3 := HC2.out.trans (Chg.of_grown hg3 (fun j hj => by have := SubV.inn HL'.out.2 j hj; omega))
        have HR3 := hid hr3
        have HC3 := hid hc3
        clear hr3 hc3 hel3 hs3 hg3
        go_wp2
        go_roundw
        case rel => exact ⟨k + 1, by omega, by go_num, by rw [HCS.out]; congr 1; push_cast; omega, HR3.out, HC3.out⟩
        case measure => simp [intOf]; omega
      · go_wp2
        go_ret
        obtain rfl : k = n := by omega
        rw [List.drop_of_length_le (by omega), List.append_nil, List.take_of_length_le (by omega)] at hr
        rw [List.take_of_length_le (by omega)]
        exact ⟨rfl, hr, hc⟩

set_option maxHeartbeats 400000 in
theorem markTable_row (weak : Bool) (z x0 : Int) (v : Value) (n lo hi : Nat) (ts : List St) (w : World) (ho : RowT weak 55 2 153 w lo hi v n ts) (h1 : (n : Int) + stN ts ≤ 107374182) (h2 : 0 ≤ x0) (h3 : x0 ≤ 107374182) :
    Calls Try.prog 48 #[.agg #[.int .i64 z, v], .int .i64 x0] w fun e w' => e = .returned (.int .i64 (x0 + stC ts)) ∧ RowT weak 55 2 153 w' lo hi v n (mkT x0 ts) ∧ Chg lo hi w w' := by
  obtain ⟨a, cap, rfl, -⟩ := RowN.shape suE_len ho
  go_enter Try.func48, Try.ntmps48
  go_wp2_with fail
  refine (markSetStateS_row weak _ n lo hi ts x0 _ (RowN.below (tabOk weak) ho ((Below.refl _ _).alloc (Nat.le_refl _) _)) h1 h2 h3).mono ?_
  rintro e w1 ⟨rfl, ho1, hg⟩
  go_wp2
  go_ret
  exact ⟨rfl, ho1, chg_alloc hg⟩

set_option maxHeartbeats 400000 in
theorem markTableResult_row (weak : Bool) (c d z x0 : Int) (v : Value) (n lo hi : Nat) (ts : List St) (w : World) (ho : RowT weak 55 2 153 w lo hi v n ts) (h1 : (n : Int) + stN ts ≤ 107374182) (h2 : 0 ≤ x0) (h3 : x0 ≤ 107374182) :
    Calls Try.prog 43 #[.agg #[.int .i64 c, .int .i64 d, .int .i64 z, v], .int .i64 x0] w fun e w' => e = .returned (.int .i64 (x0 + stC ts)) ∧ RowT weak 55 2 153 w' lo hi v n (mkT x0 ts) ∧ Chg lo hi w w' := by
  obtain ⟨a, cap, rfl, -⟩ := RowN.shape suE_len ho
  go_enter Try.func43, Try.ntmps43
  go_wp2_with fail
  refine (markTable_row weak z x0 _ n lo hi ts _ (RowN.below (tabOk weak) ho ((Below.refl _ _).alloc (Nat.le_refl _) _)) h1 h2 h3).mono ?_
  rintro e w1 ⟨rfl, ho1, hg⟩
  go_wp2
  go_ret
  exact ⟨rfl, ho1, chg_alloc hg⟩

set_option maxHeartbeats 800000 in
theorem heldArcS_yes (a : Option Addr) (n ca : Nat) (x0 : Int) (w : World) (ha : RdR lineE 2 w a n (mkL x0 n)) (h1 : n ≤ 107374182) (h2 : 0 ≤ x0) (h3 : x0 ≤ 1073741824) :
    Calls Try.prog 143 #[.slice a n ca, .int .i64 x0] w fun e w' => e = .returned (.int .i64 (x0 + 2 * n)) ∧ w' = w := by
  go_enter Try.func143, Try.ntmps143
  go_wp2
  go_loop [1, 5] (fun x i => ∃ k : Nat, k ≤ n ∧ i = .int .i64 k ∧ x = .int .i64 (x0 + 2 * k)) (fun _ i => n - (intOf i).toNat)
  case atStart => exact ⟨0, Nat.zero_le _, rfl, by go_num⟩
  case round =>
    obtain ⟨k, hk, rfl, rfl⟩ := hrel
    by_cases hlt : k < n
    · obtain ⟨b1, o1, c, rfl, hx, hc1⟩ := ha.at hlt
      rw [mkL_at x0 n k hlt] at hx
      obtain rfl := (Option.some.inj hx).symm
      obtain ⟨c0, c1⟩ := two hc1
      simp only at c0 c1
      clear hx hc1
      have hlt' : (k : Int) < (n : Int) := by omega
      go_wp2
      go_round
      case rel => exact ⟨k + 1, by omega, by go_num, by go_num⟩
      case measure => simp [intOf]; omega
    · go_wp2
      go_ret
      obtain rfl : k = n := by omega
      exact ⟨rfl, rfl⟩

set_option maxHeartbeats 1600000 in
theorem heldSetStateS_yes (a : Option Addr) (n ca : Nat) (ts : List St) (x0 : Int) (w : World) (ha : RdT w a n (mkT x0 ts)) (h1 : (n : Int) + stN ts ≤ 107374182) (h2 : 0 ≤ x0) (h3 : x0 ≤ 107374182) :
    Calls Try.prog 125 #[.slice a n ca, .int .i64 x0] w fun e w' => e = .returned (.int .i64 (x0 + stC ts)) ∧ w' = w := by
  have hlen := ha.len
  rw [mkT_len] at hlen
  have hcl := stC_le ts
  go_enter Try.func125, Try.ntmps125
  go_wp2
  go_loop [1, 5] (fun x i => ∃ k : Nat, k ≤ n ∧ i = .int .i64 k ∧ x = .int .i64 (x0 + stC (ts.take k))) (fun _ i => n - (intOf i).toNat)
  case atStart => exact ⟨0, Nat.zero_le _, rfl, by simp [stC]⟩
  case round =>
    obtain ⟨k, hk, rfl, rfl⟩ := hrel
    by_cases hlt : k < n
    · have hk' : k < ts.length := by omega
      obtain ⟨ss, az, hx⟩ : ∃ ss az, ts[k]? = some (ss, az) := ⟨ts[k].1, ts[k].2, by simp [hk']⟩
      have hs := stN_succ hx
      have ht := stN_take ts (k + 1)
      have hcs := stC_succ hx
      have hct := stC_take ts (k + 1)
      obtain ⟨b1, o1, p, cp, q, cq, ss', az', rfl, hx1, c0, c1, r1, r2, -, -⟩ := ha.at hlt
      rw [mkT_at x0 hx] at hx1
      obtain ⟨rfl, rfl⟩ : ss' = mkI (x0 + stC (ts.take k)) ss.length ∧ az' = mkL (x0 + stC (ts.take k) + ss.length) az.length := by simpa [eq_comm] using hx1
      rw [mkI_len] at c0 r1
      rw [mkL_len] at c1 r2
      have R1 := hid r1
      have R2 := hid r2
      have HCS := hid hcs
      have g1 : ss.length ≤ 1073741824 := by omega
      have g2 : 0 ≤ x0 + (stC (ts.take k) : Int) := by omega
      have g3 : x0 + (stC (ts.take k) : Int) + ss.length ≤ 1073741824 := by omega
      have g4 : az.length ≤ 107374182 := by omega
      clear hx1 hx r1 r2 hs ht hct
      have hlt' : (k : Int) < (n : Int) := by omega
      go_wp2_with fail
      refine (heldInt64S_yes p ss.length cp _ _ R1.out g1 g2 (by omega)).mono ?_
      rintro e w2 ⟨rfl, rfl⟩
      have hpos : ¬ x0 + (stC (ts.take k) : Int) + (ss.length : Int) < 0 := by omega
      go_wp2_with fail
      refine (heldArcS_yes q az.length cq _ _ R2.out g4 (by omega) g3).mono ?_
      rintro e w2 ⟨rfl, rfl⟩
      have hpos2 : ¬ x0 + (stC (ts.take k) : Int) + (ss.length : Int) + 2 * (az.length : Int) < 0 := by omega
      go_wp2
      go_round
      case rel => exact ⟨k + 1, by omega, by go_num, by rw [HCS.out]; congr 1; push_cast; omega⟩
      case measure => simp [intOf]; omega
    · go_wp2
      go_ret
      obtain rfl : k = n := by omega
      rw [List.take_of_length_le (by omega)]
      exact ⟨rfl, rfl⟩

set_option maxHeartbeats 400000 in
theorem heldTable_yes (z x0 : Int) (a : Option Addr) (n ca : Nat) (ts : List St) (w : World) (ha : RdT w a n (mkT x0 ts)) (h1 : (n : Int) + stN ts ≤ 107374182) (h2 : 0 ≤ x0) (h3 : x0 ≤ 107374182) :
    Calls Try.prog 93 #[.agg #[.int .i64 z, .slice a n ca], .int .i64 x0] w fun e w' => e = .returned (.int .i64 (x0 + stC ts)) ∧ Below w.heap.size w w' := by
  go_enter Try.func93, Try.ntmps93
  go_wp2_with fail
  refine (heldSetStateS_yes a n ca ts x0 _ (ha.below ((Below.refl _ _).alloc (Nat.le_refl _) _)) h1 h2 h3).mono ?_
  rintro e w1 ⟨rfl, rfl⟩
  have hpos : ¬ x0 + (stC ts : Int) < 0 := by omega
  go_wp2
  go_ret
  exact ⟨rfl, (Below.refl _ _).alloc (Nat.le_refl _) _⟩

set_option maxHeartbeats 400000 in
theorem heldTableResult_yes (c d z x0 : Int) (a : Option Addr) (n ca : Nat) (ts : List St) (w : World) (ha : RdT w a n (mkT x0 ts)) (h1 : (n : Int) + stN ts ≤ 107374182) (h2 : 0 ≤ x0) (h3 : x0 ≤ 107374182) :
    Calls Try.prog 44 #[.agg #[.int .i64 c, .int .i64 d, .int .i64 z, .slice a n ca], .int .i64 x0] w fun e w' => e = .returned (.int .i64 (x0 + stC ts)) ∧ Below w.heap.size w w' := by
  go_enter Try.func44, Try.ntmps44
  go_wp2_with fail
  refine (heldTable_yes z x0 a n ca ts _ (ha.below ((Below.refl _ _).alloc (Nat.le_refl _) _)) h1 h2 h3).mono ?_
  rintro e w1 ⟨rfl, hb1⟩
  have hpos : ¬ x0 + (stC ts : Int) < 0 := by omega
  go_wp2
  go_ret
  exact ⟨rfl, below_slot hb1⟩
end Go.Proofs.Ytoggkcgldckekaa
