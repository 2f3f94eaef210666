/-
  For every code, FnCloses returns true: what the program closes is closed and has what it came of, and a step is the document's; no condition.
  (Clo1, WCloses, LCloses0 in one text.)
-/
import Derived.ProofKit
import Derived.OpenShut
import Derived.ChangeOld
import Derived.Below
import Derived.Carry
import Derived.Test.YtocophekfbhfbaaSet8
import Derived.Test.YtocophekfbhfbaaMem0
import Derived.Test.YtocophekfbhfbaaHlpA
import Derived.Test.YtocophekfbhfbaaDrpA
import Derived.Test.YtocophekfbhfbaaArgsA
namespace Go.Proofs.Ytocophekfbhfbaa
open Go.RowKit
set_option linter.unusedVariables false
set_option linter.unusedSimpArgs false

set_option maxHeartbeats 400000 in
theorem lwNums_of (a b : Option Addr) (n m ca cb : Nat) (xs ys : List Int) (w : World) (ha : Rd .i64 w a n xs) (hb : Rd .i64 w b m ys) (h1 : n ≤ maxLen) (h2 : m ≤ maxLen) :
    Calls Try.prog 40 #[.slice a n ca, .slice b m cb] w fun e w' => e = .returned (.bool (decide (xs = ys))) ∧ ∃ q, w' = w.drewN q := by
  unfold maxLen at h1 h2
  by_cases hl : n = m
  · subst hl
    go_enter Try.func40, Try.ntmps40
    go_wp2
    go_loopw [5] (fun i wr => ∃ k q : Nat, k ≤ n ∧ i = .int .i64 k ∧ wr = w.drewN q ∧ xs.take k = ys.take k) (fun i _ => n - (intOf i).toNat)
    case atStart => exact ⟨0, 0, Nat.zero_le _, rfl, rfl, rfl⟩
    case round =>
      obtain ⟨k, q, hk, rfl, rfl, hx⟩ := hrel
      have HX : Hid (xs.take k = ys.take k) := hx
      clear hx
      by_cases hlt : k < n
      · obtain ⟨b1, o1, rfl, hc1⟩ := ha.at hlt
        obtain ⟨b2, o2, rfl, hc2⟩ := hb.at hlt
        have hk1 := hc1 k hlt
        have hk2 := hc2 k hlt
        clear hc1 hc2
        have hlt' : (k : Int) < (n : Int) := by omega
        go_wp2
        go_quiet (fail)
        go_wp2
        · go_ret
          exact ⟨ret_bool (eq_stop (by assumption)), _, World.drewN_drewN _ _ _⟩
        · go_roundw
          case rel => exact ⟨k + 1, _, by omega, by go_num, rfl, eq_step ha.1 hb.1 hlt HX.out (by assumption)⟩
          case measure => simp [intOf]; omega
      · go_wp2
        go_ret
        exact ⟨ret_bool (eq_end ha.1 hb.1 (by omega) HX.out), q, rfl⟩
  · go_enter Try.func40, Try.ntmps40
    go_wp2
    go_ret
    refine ⟨ret_bool ?_, 0, rfl⟩
    have : ¬ xs = ys := fun e => hl (by rw [← ha.1, ← hb.1, e])
    simp [this]

theorem lwNums_yes (a b : Option Addr) (n ca cb : Nat) (xs : List Int) (w : World) (ha : Rd .i64 w a n xs) (hb : Rd .i64 w b n xs) (h1 : n ≤ maxLen) :
    Calls Try.prog 40 #[.slice a n ca, .slice b n cb] w fun e w' => e = .returned (.bool true) ∧ Below w.heap.size w w' :=
  (lwNums_of a b n n ca cb xs xs w ha hb h1 h1).mono fun e w' ⟨he, q, hw⟩ => ⟨by rw [he]; simp, by subst hw; exact ⟨rfl, rfl, rfl, Nat.le_refl _, fun _ _ => rfl⟩⟩

set_option maxHeartbeats 800000 in
theorem lwHas_yes (a : Option Addr) (n ca : Nat) (xs : List Int) (z : Int) (w : World) (ha : Rd .i64 w a n xs) (h1 : n ≤ 1073741824) (hz : z ∈ xs) :
    Calls Try.prog 36 #[.slice a n ca, .int .i64 z] w fun e w' => e = .returned (.bool true) ∧ w' = w := by
  have hlen := ha.1
  go_enter Try.func36, Try.ntmps36
  go_wp2
  go_loop [5] (fun i => ∃ k : Nat, k ≤ n ∧ i = .int .i64 k ∧ z ∉ xs.take k) (fun i => n - (intOf i).toNat)
  case atStart => exact ⟨0, Nat.zero_le _, rfl, by simp⟩
  case round =>
    obtain ⟨k, hk, rfl, hx⟩ := hrel
    have HX := hid hx
    clear hx
    by_cases hlt : k < n
    · obtain ⟨b1, o1, rfl, hc1⟩ := ha.at hlt
      have hk1 := hc1 k hlt
      have hlt' : (k : Int) < (n : Int) := by omega
      have hxk : xs.getD k 0 = xs[k] := by rw [List.getD_eq_getElem?_getD, List.getElem?_eq_getElem (by omega)]; rfl
      by_cases he : xs.getD k 0 = z
      · rw [he] at hk1
        have HZ := hid he
        clear he hc1 hxk
        go_wp2
        go_ret
        exact ⟨rfl, rfl⟩
      · generalize hv : xs.getD k 0 = v at *
        have hne : ¬ v = z := he
        have HV := hid hv
        have HK := hid hxk
        clear hc1 hv hxk he
        go_wp2
        go_round
        case rel =>
          refine ⟨k + 1, by omega, by go_num, fun h => ?_⟩
          rw [List.take_add_one, List.getElem?_eq_getElem (by omega)] at h
          simp only [Option.toList_some, List.mem_append, List.mem_cons, List.not_mem_nil, or_false] at h
          rcases h with h | h
          · exact HX.out h
          · exact hne (HK.out.trans h.symm)
        case measure => simp [intOf]; omega
    · exfalso
      have hx := HX.out
      rw [List.take_of_length_le (by omega)] at hx
      exact hx hz

theorem mem_places {bs : List Bool} {x : Int} : ∀ {k : Nat}, x ∈ placesTo bs k ↔ 0 ≤ x ∧ x < k ∧ bs.getD x.toNat false = true
  | k => by
    unfold placesTo
    rw [List.mem_map]
    constructor
    · rintro ⟨i, hi, rfl⟩
      rw [List.mem_filter, List.mem_range] at hi
      exact ⟨by omega, by omega, by simpa using hi.2⟩
    · rintro ⟨h1, h2, h3⟩
      exact ⟨x.toNat, List.mem_filter.2 ⟨List.mem_range.2 (by omega), h3⟩, by omega⟩

theorem setGo_of {n : Int} : ∀ {xs : List Int} {p : Int}, xs.Pairwise (· < ·) → (∀ x ∈ xs, p < x ∧ x < n) → setGo n p xs = 0
  | [], p, _, _ => rfl
  | x :: xs, p, hp, h => by
    obtain ⟨h1, h2⟩ := List.pairwise_cons.1 hp
    have hx := h x (List.mem_cons_self ..)
    rw [setGo, if_neg (by omega)]
    exact setGo_of h2 fun y hy => ⟨h1 y hy, (h y (List.mem_cons_of_mem _ hy)).2⟩

theorem true_lt {bs : List Bool} {q : Nat} (h : bs.getD q false = true) : q < bs.length := by
  apply Classical.byContradiction
  intro hn
  rw [List.getD_eq_getElem?_getD, List.getElem?_eq_none (by omega)] at h
  simp at h

/-- What is closed has what it came of, is a set, and is closed. -/
theorem closes {is : List In} {xs : List Int} (b e : Bool) (h : setFault is xs = 0) : (∀ x ∈ xs, x ∈ clRes is xs b e) ∧ setFault is (clRes is xs b e) = 0 ∧ clRes is (clRes is xs b e) b e = clRes is xs b e := by
  obtain ⟨h1, h2, h3⟩ := setFault_ok h
  have hin := inside_of h1
  have h80 : is.length ≤ 80 := by
    unfold progFault at h1
    apply Classical.byContradiction
    intro hn
    rw [if_pos (by omega)] at h1
    omega
  obtain ⟨-, g2⟩ := goes_of hin b e
  have key : ∀ ys : List Int, (∀ y ∈ ys, y.toNat < is.length) → Least (tgS b e) is ys (closeS is b e ys) ∧ (closeS is b e ys).length = is.length := fun ys hy =>
    ⟨dfsAll_least g2 is.length (Nat.le_refl _) h80 ys hy, dfsAll_len g2 is.length (Nat.le_refl _) h80 _ (by simp) ys hy⟩
  have hx : ∀ x ∈ xs, x.toNat < is.length := fun x hx => by have := h3 x hx; omega
  obtain ⟨L, hl⟩ := key xs hx
  have eR : clRes is xs b e = placesOf (closeS is b e xs) := by unfold clRes; rw [if_pos h]
  generalize hR : closeS is b e xs = R at *
  have m1 : ∀ x, x ∈ placesOf R ↔ 0 ≤ x ∧ x < is.length ∧ R.getD x.toNat false = true := fun x => by
    unfold placesOf; rw [mem_places, hl]
  have hx2 : ∀ x ∈ placesOf R, x.toNat < is.length := fun x hx => by have := (m1 x).1 hx; omega
  have f2 : setFault is (placesOf R) = 0 := by
    unfold setFault
    have hle := placesOf_len R
    rw [if_neg (by simpa using h1), if_neg (by omega)]
    exact setGo_of (placesOf_rise R) fun x hx => by have := (m1 x).1 hx; omega
  rw [eR]
  refine ⟨fun x hx => (m1 x).2 ⟨(h3 x hx).1, (h3 x hx).2, L.mem x hx⟩, f2, ?_⟩
  obtain ⟨L2, hl2⟩ := key (placesOf R) hx2
  have e2 : clRes is (placesOf R) b e = placesOf (closeS is b e (placesOf R)) := by unfold clRes; rw [if_pos f2]
  rw [e2]
  generalize closeS is b e (placesOf R) = R2 at *
  unfold placesOf
  rw [hl, hl2]
  refine placesTo_congr fun q hq => ?_
  have h4 : R2.getD q false = true ↔ R.getD q false = true := by
    constructor
    · exact L2.min (fun q => R.getD q false = true) L.cl (fun p hp => ((m1 p).1 hp).2.2) q
    · intro h
      have := L2.mem (q : Int) ((m1 q).2 ⟨by omega, by omega, by simpa using h⟩)
      simpa using this
  cases h5 : R2.getD q false <;> cases h6 : R.getD q false <;> simp_all
end Go.Proofs.Ytocophekfbhfbaa

namespace Go.Proofs.Ytocophekfbhfbaa
open Go.RowKit
set_option linter.unusedVariables false
set_option linter.unusedSimpArgs false

theorem fldR0 (x y : Value) (w : World) : (Instr.field 64 (.agg #[x, y]) 0).run Try.prog w = .ok x w := by kernel_rfl
theorem fldR1 (x y : Value) (w : World) : (Instr.field 64 (.agg #[x, y]) 1).run Try.prog w = .ok y w := by kernel_rfl
theorem lwHas_b (a : Option Addr) (n ca : Nat) (xs : List Int) (z : Int) (w : World) (ha : Rd .i64 w a n xs) (h1 : n ≤ 1073741824) (hz : z ∈ xs) :
    Calls Try.prog 36 #[.slice a n ca, .int .i64 z] w fun e w' => e = .returned (.bool true) ∧ Below w.heap.size w w' :=
  (lwHas_yes a n ca xs z w ha h1 hz).mono fun e w' ⟨he, hw⟩ => ⟨he, by subst hw; exact Below.refl _ _⟩

set_option maxRecDepth 20000 in
set_option maxHeartbeats 12000000 in
theorem closesWalk (a : Option Addr) (n ca : Nat) (xs : List Int) (w : World) (ha : Rd .u8 w a n xs) (hB : Bytes xs) (hm : n ≤ maxLen) :
    Calls Try.prog 5 #[.slice a n ca] w fun e w' => e = .returned (.bool true) ∧ Below w.heap.size w w' := by
  unfold maxLen at hm
  by_cases hn : n ≤ 1048576
  case neg =>
    go_enter Try.func5, Try.ntmps5
    go_wp2_with (go_at_call 10; go_in)
    go_ret
    exact ⟨rfl, Below.refl _ _⟩
  go_enter Try.func5, Try.ntmps5
  have hb : Below w.heap.size w w := Below.refl _ _
  go_wp2_with (go_at_call 10; go_in)
  refine Calls.mono (DrawCloseSet_any a n ca xs _ (ha.below hb) hB hn) ?_
  rintro e w1 ⟨v, ps, u, zs, bx, by', rfl, P⟩
  have hc := P.below
  have rp := P.prog
  have rz := P.set
  have hpl := P.plen
  have hzl := P.zlen
  have hsum : inSum ps ≤ 1048576 := by have := inSum_le P.small; omega
  clear P
  obtain ⟨ap, kp, rfl, hkp1, hkp2⟩ := rp.shape inE_len
  obtain ⟨az, kz, rfl, hkz1, hkz2⟩ := rz.shape
  have s1 : w.heap.size ≤ w1.heap.size := hc.size
  have bq := hc
  replace hb := hb.trans (bq.mono hb.size)
  clear hc bq
  have IC := fun w' h h' => implCloseSet_any ap ps.length kp ps az zs.length kz zs bx by' w' h h' hsum (by omega) (by omega)
  have SC := fun w' h h' => specCloseSet_any ap ps.length kp ps az zs.length kz zs bx by' w' h h' hsum (by omega) (by omega)
  have IF := fun w' h h' => implSetFault_any ap ps.length kp ps az zs.length kz zs w' h h' hsum (by omega) (by omega)
  have f0 := fldR0
  have f1 := fldR1
  by_cases hC : setFault ps zs = 0
  · skip
    obtain ⟨c1, c2, c3⟩ := closes bx by' hC
    have hcl := clRes_len ps zs bx by'
    rw [hC] at IC SC
    generalize clRes ps zs bx by' = CR at *
    have HIC := hid IC
    have HSC := hid SC
    have HM := hid c1
    have HF2 := hid c2
    have HC3 := hid c3
    clear IC SC IF hkp1 hkp2 hkz1 hkz2 c1 c2 c3 hC
    go_wp2_with fail
    refine Calls.mono (HIC.out _ (rp.read inE_len) rz.read) ?_
    rintro e w2 ⟨v1, rfl, rc, hc⟩
    obtain ⟨ac, kc, rfl, hkc1, hkc2⟩ := rc.shape
    clear hkc1 hkc2 HIC
    have s2 : w1.heap.size ≤ w2.heap.size := hc.size
    have bq := hc
    replace rp := rp.below bq
    replace rz := rz.below bq
    replace hb := hb.trans (bq.mono hb.size)
    clear hc bq
    go_wp2_with fail
    have bp : ∀ o0, Below w2.heap.size w2 (w2.alloc o0) := fun o0 => (Below.refl _ _).alloc (Nat.le_refl _) o0
    have hbt : ∀ o0, Below w.heap.size w (w2.alloc o0) := fun o0 => hb.trans ((bp o0).mono hb.size)
    obtain ⟨w3, hw3⟩ : ∃ x, (w2.alloc (.cells #[.int .i64 0, .slice ac CR.length kc] 64)) = x := ⟨_, rfl⟩
    have hc : Below ((w2.alloc (.cells #[.int .i64 0, .slice ac CR.length kc] 64))).heap.size ((w2.alloc (.cells #[.int .i64 0, .slice ac CR.length kc] 64))) w3 := hw3 ▸ Below.refl _ _
    have s3 : w2.heap.size + 1 ≤ w3.heap.size := by have := hc.size; simp at this; omega
    have bq : Below w2.heap.size w2 w3 := (bp _).trans (hc.mono (bp _).size)
    have cR0 : w3.cell? ⟨w2.heap.size, 0, none⟩ = some (.int .i64 0) := cell_later hc (by simp [go_sem])
    have cR1 : w3.cell? ⟨w2.heap.size, 1, none⟩ = some (.slice ac CR.length kc) := cell_later hc (by simp [go_sem])
    have zR : w2.heap.size < w3.heap.size := by omega
    replace rp := rp.below bq
    replace rz := rz.below bq
    replace rc := rc.below bq
    replace hb := hb.trans (bq.mono hb.size)
    clear hc bq bp hbt
    rw [hw3]
    clear hw3
    have HV := hid (And.intro hb (And.intro cR0 (And.intro cR1 (And.intro zR (And.intro rp (And.intro rz (And.intro rc ha)))))))
    clear hb cR0 cR1 zR rp rz rc
    go_loopw [8] (fun i wr => ∃ k : Nat, k ≤ zs.length ∧ i = .int .i64 k ∧ Below w3.heap.size w3 wr) (fun i _ => zs.length - (intOf i).toNat)
    case atStart => exact ⟨0, Nat.zero_le _, rfl, Below.refl _ _⟩
    case round =>
      obtain ⟨k, hk, rfl, hbq⟩ := hrel
      by_cases hlt : k < zs.length
      · have hlt' : (k : Int) < (zs.length : Int) := by omega
        have cR1 := cell_later hbq HV.out.2.2.1
        have rc := HV.out.2.2.2.2.2.2.1.below hbq
        obtain ⟨gz, oz, haz, hcz⟩ := (HV.out.2.2.2.2.2.1.below hbq).read.at hlt
        subst haz
        have cz := hcz k hlt
        obtain ⟨zk, hzk⟩ : ∃ x, zs.getD k 0 = x := ⟨_, rfl⟩
        rw [hzk] at cz
        have hmem : zk ∈ zs := by rw [← hzk, List.getD_eq_getElem?_getD, List.getElem?_eq_getElem hlt]; exact List.getElem_mem hlt
        have HMZ := hid (HM.out zk hmem)
        clear hcz hzk hmem
        go_wp2_with fail
        have hb : Below wr.heap.size wr wr := Below.refl _ _
        have bd : Below wr.heap.size wr wr.drew := (Below.refl _ _).drew
        refine wp_region_held_drew (S := fun w' => Below wr.heap.size wr w') (by kernel_rfl) bd (fun hS => ?_)
        obtain ⟨D30, hD⟩ : ∃ D, wr.drew = D := ⟨_, rfl⟩
        rw [hD] at hS bd ⊢
        have hc := bd
        clear hD bd
        have o_cR1 := cR1
        have o_cz := cz
        have s31 : wr.heap.size ≤ D30.heap.size := hc.size
        have bq := hc
        replace rc := rc.below bq
        replace hb := hb.trans (bq.mono hb.size)
        clear hc bq
        refine wpAnyH_take (i := 0) (v := (.pointer (some ⟨w2.heap.size, 1, none⟩))) rfl (by as_aux_lemma => kernel_rfl) (by as_aux_lemma => kernel_rfl) (by as_aux_lemma => kernel_rfl) (fun _ _ _ h => h) (Or.inl ⟨by kernel_rfl, ?_⟩) hS ?_
        · intro w hSw; (try dsimp only at hSw); go_simp
        (try simp only [Act.put, List.getElem_toArray, List.getElem_cons_zero, List.getElem_cons_succ, List.setIfInBounds_toArray, List.set_cons_zero, List.set_cons_succ])
        refine wpAnyH_take (i := 1) (v := (.slice ac CR.length kc)) rfl (by as_aux_lemma => kernel_rfl) (by as_aux_lemma => kernel_rfl) (by as_aux_lemma => kernel_rfl) (fun _ _ _ h => h) (Or.inl ⟨by kernel_rfl, ?_⟩) hS ?_
        · intro w hSw; (try dsimp only at hSw); have hl0 := cell_later hSw o_cR1; go_simp
        (try simp only [Act.put, List.getElem_toArray, List.getElem_cons_zero, List.getElem_cons_succ, List.setIfInBounds_toArray, List.set_cons_zero, List.set_cons_succ])
        refine wpAnyH_take (i := 2) (v := (.slice (some ⟨gz, oz, none⟩) zs.length kz)) rfl (by as_aux_lemma => kernel_rfl) (by as_aux_lemma => kernel_rfl) (by as_aux_lemma => kernel_rfl) (fun _ _ _ h => h) (Or.inl ⟨by kernel_rfl, ?_⟩) hS ?_
        · intro w hSw; (try dsimp only at hSw); go_simp
        (try simp only [Act.put, List.getElem_toArray, List.getElem_cons_zero, List.getElem_cons_succ, List.setIfInBounds_toArray, List.set_cons_zero, List.set_cons_succ])
        refine wpAnyH_take (i := 3) (v := (.int .i64 (k : Int))) rfl (by as_aux_lemma => kernel_rfl) (by as_aux_lemma => kernel_rfl) (by as_aux_lemma => kernel_rfl) (fun _ _ _ h => h) (Or.inl ⟨by kernel_rfl, ?_⟩) hS ?_
        · intro w hSw; (try dsimp only at hSw); go_simp
        (try simp only [Act.put, List.getElem_toArray, List.getElem_cons_zero, List.getElem_cons_succ, List.setIfInBounds_toArray, List.set_cons_zero, List.set_cons_succ])
        refine wpAnyH_take (i := 4) (v := (.pointer (some ⟨gz, oz + k, none⟩))) rfl (by as_aux_lemma => kernel_rfl) (by as_aux_lemma => kernel_rfl) (by as_aux_lemma => kernel_rfl) (fun _ _ _ h => h) (Or.inl ⟨by kernel_rfl, ?_⟩) hS ?_
        · intro w hSw; (try dsimp only at hSw); go_simp
        (try simp only [Act.put, List.getElem_toArray, List.getElem_cons_zero, List.getElem_cons_succ, List.setIfInBounds_toArray, List.set_cons_zero, List.set_cons_succ])
        refine wpAnyH_take (i := 5) (v := (.int .i64 zk)) rfl (by as_aux_lemma => kernel_rfl) (by as_aux_lemma => kernel_rfl) (by as_aux_lemma => kernel_rfl) (fun _ _ _ h => h) (Or.inl ⟨by kernel_rfl, ?_⟩) hS ?_
        · intro w hSw; (try dsimp only at hSw); have hl0 := cell_later hSw o_cz; go_simp
        (try simp only [Act.put, List.getElem_toArray, List.getElem_cons_zero, List.getElem_cons_succ, List.setIfInBounds_toArray, List.set_cons_zero, List.set_cons_succ])
        refine wpAnyH_ready (rs := [6]) (by as_aux_lemma => kernel_rfl) (by simp) ?_
        refine AllReadyH.cons rfl (fun K hK => ?_) AllReadyH.nil
        go_simp
        refine Calls.mono (lwHas_b ac CR.length kc CR zk _ rc.read (by omega) HMZ.out) ?_
        rintro e w32 ⟨rfl, hc⟩
        refine hK.out _ _ (hS.trans (hc.mono hS.size)) (fun hS => ?_)
        clear hK K
        (try simp only [Act.put, List.getElem_toArray, List.getElem_cons_zero, List.getElem_cons_succ, List.setIfInBounds_toArray, List.set_cons_zero, List.set_cons_succ])
        have s32 : D30.heap.size ≤ w32.heap.size := hc.size
        have bq := hc
        replace rc := rc.below bq
        replace hb := hb.trans (bq.mono hb.size)
        clear hc bq
        refine wpAnyH_take (i := 7) (v := (.bool false)) rfl (by as_aux_lemma => kernel_rfl) (by as_aux_lemma => kernel_rfl) (by as_aux_lemma => kernel_rfl) (fun _ _ _ h => h) (Or.inl ⟨by kernel_rfl, ?_⟩) hS ?_
        · intro w hSw; (try dsimp only at hSw); go_simp
        (try simp only [Act.put, List.getElem_toArray, List.getElem_cons_zero, List.getElem_cons_succ, List.setIfInBounds_toArray, List.set_cons_zero, List.set_cons_succ])
        refine wpAnyH_done (by kernel_rfl) ?_ _
        clear o_cR1
        clear o_cz
        have hbD := hbq.trans (hb.mono hbq.size)
        go_wp2
        go_roundw
        case rel => exact ⟨k + 1, by omega, by go_num, hbD⟩
        case measure => simp [intOf]; omega
      · have hlt' : ¬ (k : Int) < (zs.length : Int) := by omega
        obtain ⟨hb0, cR00, cR10, zR0, rp0, rz0, rc0, ha⟩ := HV.out
        have hb := hb0.trans (hbq.mono hb0.size)
        have cR0 := cell_later hbq cR00
        have cR1 := cell_later hbq cR10
        have zR := Nat.lt_of_lt_of_le zR0 hbq.size
        have rp := rp0.below hbq
        have rz := rz0.below hbq
        have rc := rc0.below hbq
        clear hb0 cR00 cR10 zR0 rp0 rz0 rc0 HV hbq HM hlt
        go_wp2_with fail
        refine Calls.mono (DrawStepSet_any a n ca xs _ (ha.below hb) hB hn) ?_
        rintro e w61 ⟨v2, qs, u2, ys, d, rfl, hd0, hd1, P⟩
        have hc := P.below
        have rq := P.prog
        have ry := P.set
        have hql := P.plen
        have hyl := P.zlen
        have hsum2 : inSum qs ≤ 1048576 := by have := inSum_le P.small; omega
        clear P
        obtain ⟨aq, kq, rfl, hkq1, hkq2⟩ := rq.shape inE_len
        obtain ⟨ay, ky, rfl, hky1, hky2⟩ := ry.shape
        have s61 : wr.heap.size ≤ w61.heap.size := hc.size
        have bq := hc
        replace cR0 := cell_later bq cR0
        replace cR1 := cell_later bq cR1
        replace zR := Nat.lt_of_lt_of_le zR bq.size
        replace rp := rp.below bq
        replace rz := rz.below bq
        replace rc := rc.below bq
        replace hb := hb.trans (bq.mono hb.size)
        clear hc bq
        have IS := fun w' h h' => implStepSet_any aq qs.length kq qs ay ys.length ky ys d hd0 hd1 w' h h' hsum2 (by omega) (by omega)
        have SS := fun w' h h' => specStepSet_any aq qs.length kq qs ay ys.length ky ys d hd0 hd1 w' h h' hsum2 (by omega) (by omega)
        have hsl : (stRes qs ys d).length ≤ 80 := stRes_len qs ys d
        generalize stRes qs ys d = SR at *
        generalize setFault qs ys = G at *
        have HIS := hid IS
        have HSS := hid SS
        clear IS SS hkq1 hkq2 hky1 hky2 hd0 hd1 ha hsum2 hql hyl
        have IC2 := fun w' h h' => implCloseSet_any ap ps.length kp ps ac CR.length kc CR bx by' w' h h' hsum (by omega) (by omega)
        rw [HF2.out, HC3.out] at IC2
        have HIC2 := hid IC2
        have IF2 := fun w' h h' => implSetFault_any ap ps.length kp ps ac CR.length kc CR w' h h' hsum (by omega) (by omega)
        rw [HF2.out] at IF2
        have HIF2 := hid IF2
        clear IC2 IF2 HF2 HC3 hsum
        go_wp2_with fail
        refine Calls.mono (HIS.out _ (rq.read inE_len) ry.read) ?_
        rintro e w62 ⟨v3, rfl, rs, hc⟩
        obtain ⟨as', ks, rfl, -, -⟩ := rs.shape
        clear HIS
        have s62 : w61.heap.size ≤ w62.heap.size := hc.size
        have bq := hc
        replace cR0 := cell_later bq cR0
        replace cR1 := cell_later bq cR1
        replace zR := Nat.lt_of_lt_of_le zR bq.size
        replace rp := rp.below bq
        replace rz := rz.below bq
        replace rc := rc.below bq
        replace rq := rq.below bq
        replace ry := ry.below bq
        replace hb := hb.trans (bq.mono hb.size)
        clear hc bq
        go_wp2_with fail
        have bp : ∀ o0, Below w62.heap.size w62 (w62.alloc o0) := fun o0 => (Below.refl _ _).alloc (Nat.le_refl _) o0
        have hbt : ∀ o0, Below w.heap.size w (w62.alloc o0) := fun o0 => hb.trans ((bp o0).mono hb.size)
        refine Calls.mono (HSS.out _ ((rq.below (bp _)).read inE_len) (ry.below (bp _)).read) ?_
        rintro e w63 ⟨v4, rfl, rt, hc⟩
        obtain ⟨at', kt, rfl, -, -⟩ := rt.shape
        clear HSS
        have s63 : w62.heap.size + 1 ≤ w63.heap.size := by have := hc.size; simp at this; omega
        have bq : Below w62.heap.size w62 w63 := (bp _).trans (hc.mono (bp _).size)
        replace cR0 := cell_later bq cR0
        replace cR1 := cell_later bq cR1
        replace zR := Nat.lt_of_lt_of_le zR bq.size
        have cS0 : w63.cell? ⟨w62.heap.size, 0, none⟩ = some (.int .i64 G) := cell_later hc (by simp [go_sem])
        have cS1 : w63.cell? ⟨w62.heap.size, 1, none⟩ = some (.slice as' SR.length ks) := cell_later hc (by simp [go_sem])
        have zS : w62.heap.size < w63.heap.size := by omega
        replace rp := rp.below bq
        replace rz := rz.below bq
        replace rc := rc.below bq
        replace rq := rq.below bq
        replace ry := ry.below bq
        replace rs := rs.below bq
        replace hb := hb.trans (bq.mono hb.size)
        clear hc bq bp hbt
        go_wp2_with fail
        have bp : ∀ o0, Below w63.heap.size w63 (w63.alloc o0) := fun o0 => (Below.refl _ _).alloc (Nat.le_refl _) o0
        have hbt : ∀ o0, Below w.heap.size w (w63.alloc o0) := fun o0 => hb.trans ((bp o0).mono hb.size)
        obtain ⟨w64, hw64⟩ : ∃ x, (w63.alloc (.cells #[.int .i64 G, .slice at' SR.length kt] 64)) = x := ⟨_, rfl⟩
        have hc : Below ((w63.alloc (.cells #[.int .i64 G, .slice at' SR.length kt] 64))).heap.size ((w63.alloc (.cells #[.int .i64 G, .slice at' SR.length kt] 64))) w64 := hw64 ▸ Below.refl _ _
        have s64 : w63.heap.size + 1 ≤ w64.heap.size := by have := hc.size; simp at this; omega
        have bq : Below w63.heap.size w63 w64 := (bp _).trans (hc.mono (bp _).size)
        replace cR0 := cell_later bq cR0
        replace cR1 := cell_later bq cR1
        replace zR := Nat.lt_of_lt_of_le zR bq.size
        replace cS0 := cell_later bq cS0
        replace cS1 := cell_later bq cS1
        replace zS := Nat.lt_of_lt_of_le zS bq.size
        have cT0 : w64.cell? ⟨w63.heap.size, 0, none⟩ = some (.int .i64 G) := cell_later hc (by simp [go_sem])
        have cT1 : w64.cell? ⟨w63.heap.size, 1, none⟩ = some (.slice at' SR.length kt) := cell_later hc (by simp [go_sem])
        have zT : w63.heap.size < w64.heap.size := by omega
        replace rp := rp.below bq
        replace rz := rz.below bq
        replace rc := rc.below bq
        replace rq := rq.below bq
        replace ry := ry.below bq
        replace rs := rs.below bq
        replace rt := rt.below bq
        replace hb := hb.trans (bq.mono hb.size)
        clear hc bq bp hbt
        rw [hw64]
        clear hw64
        have bd : Below w64.heap.size w64 w64.drew := (Below.refl _ _).drew
        refine wp_region_held_drew (S := fun w' => Below w.heap.size w w' ∧ w'.cell? ⟨w2.heap.size, 1, none⟩ = some (.slice ac CR.length kc) ∧ w'.cell? ⟨w62.heap.size, 0, none⟩ = some (.int .i64 G) ∧ w'.cell? ⟨w62.heap.size, 1, none⟩ = some (.slice as' SR.length ks) ∧ w'.cell? ⟨w63.heap.size, 0, none⟩ = some (.int .i64 G) ∧ w'.cell? ⟨w63.heap.size, 1, none⟩ = some (.slice at' SR.length kt)) (by kernel_rfl) ⟨(hb.trans (bd.mono hb.size)), cell_later bd cR1, cell_later bd cS0, cell_later bd cS1, cell_later bd cT0, cell_later bd cT1⟩ (fun hS => ?_)
        obtain ⟨D64, hD⟩ : ∃ D, w64.drew = D := ⟨_, rfl⟩
        rw [hD] at hS bd ⊢
        have hc := bd
        clear hD bd
        have s65 : w64.heap.size ≤ D64.heap.size := hc.size
        have bq := hc
        replace cR0 := cell_later bq cR0
        replace cR1 := cell_later bq cR1
        replace zR := Nat.lt_of_lt_of_le zR bq.size
        replace cS0 := cell_later bq cS0
        replace cS1 := cell_later bq cS1
        replace zS := Nat.lt_of_lt_of_le zS bq.size
        replace cT0 := cell_later bq cT0
        replace cT1 := cell_later bq cT1
        replace zT := Nat.lt_of_lt_of_le zT bq.size
        replace rp := rp.below bq
        replace rz := rz.below bq
        replace rc := rc.below bq
        replace rq := rq.below bq
        replace ry := ry.below bq
        replace rs := rs.below bq
        replace rt := rt.below bq
        replace hb := hb.trans (bq.mono hb.size)
        clear hc bq
        refine wpAnyH_take (i := 0) (v := (.slice ap ps.length kp)) rfl (by as_aux_lemma => kernel_rfl) (by as_aux_lemma => kernel_rfl) (by as_aux_lemma => kernel_rfl) (fun _ _ _ h => h) (Or.inl ⟨by kernel_rfl, ?_⟩) hS ?_
        · intro w hSw; (try dsimp only at hSw); go_simp; all_goals (try omega)
        (try simp only [Act.put, List.getElem_toArray, List.getElem_cons_zero, List.getElem_cons_succ, List.setIfInBounds_toArray, List.set_cons_zero, List.set_cons_succ])
        refine wpAnyH_take (i := 1) (v := (.pointer (some ⟨w2.heap.size, 1, none⟩))) rfl (by as_aux_lemma => kernel_rfl) (by as_aux_lemma => kernel_rfl) (by as_aux_lemma => kernel_rfl) (fun _ _ _ h => h) (Or.inl ⟨by kernel_rfl, ?_⟩) hS ?_
        · intro w hSw; (try dsimp only at hSw); go_simp; all_goals (try omega)
        (try simp only [Act.put, List.getElem_toArray, List.getElem_cons_zero, List.getElem_cons_succ, List.setIfInBounds_toArray, List.set_cons_zero, List.set_cons_succ])
        refine wpAnyH_take (i := 2) (v := (.slice ac CR.length kc)) rfl (by as_aux_lemma => kernel_rfl) (by as_aux_lemma => kernel_rfl) (by as_aux_lemma => kernel_rfl) (fun _ _ _ h => h) (Or.inl ⟨by kernel_rfl, ?_⟩) hS ?_
        · intro w hSw; (try dsimp only at hSw); obtain ⟨hSb, hl0, hl1, hl2, hl3, hl4⟩ := hSw; go_simp; all_goals (try omega)
        (try simp only [Act.put, List.getElem_toArray, List.getElem_cons_zero, List.getElem_cons_succ, List.setIfInBounds_toArray, List.set_cons_zero, List.set_cons_succ])
        refine wpAnyH_take (i := 3) (v := (.bool bx)) rfl (by as_aux_lemma => kernel_rfl) (by as_aux_lemma => kernel_rfl) (by as_aux_lemma => kernel_rfl) (fun _ _ _ h => h) (Or.inl ⟨by kernel_rfl, ?_⟩) hS ?_
        · intro w hSw; (try dsimp only at hSw); go_simp; all_goals (try omega)
        (try simp only [Act.put, List.getElem_toArray, List.getElem_cons_zero, List.getElem_cons_succ, List.setIfInBounds_toArray, List.set_cons_zero, List.set_cons_succ])
        refine wpAnyH_take (i := 4) (v := (.bool by')) rfl (by as_aux_lemma => kernel_rfl) (by as_aux_lemma => kernel_rfl) (by as_aux_lemma => kernel_rfl) (fun _ _ _ h => h) (Or.inl ⟨by kernel_rfl, ?_⟩) hS ?_
        · intro w hSw; (try dsimp only at hSw); go_simp; all_goals (try omega)
        (try simp only [Act.put, List.getElem_toArray, List.getElem_cons_zero, List.getElem_cons_succ, List.setIfInBounds_toArray, List.set_cons_zero, List.set_cons_succ])
        refine wpAnyH_take (i := 7) (v := (.pointer (some ⟨w2.heap.size, 1, none⟩))) rfl (by as_aux_lemma => kernel_rfl) (by as_aux_lemma => kernel_rfl) (by as_aux_lemma => kernel_rfl) (fun _ _ _ h => h) (Or.inl ⟨by kernel_rfl, ?_⟩) hS ?_
        · intro w hSw; (try dsimp only at hSw); go_simp; all_goals (try omega)
        (try simp only [Act.put, List.getElem_toArray, List.getElem_cons_zero, List.getElem_cons_succ, List.setIfInBounds_toArray, List.set_cons_zero, List.set_cons_succ])
        refine wpAnyH_take (i := 8) (v := (.slice ac CR.length kc)) rfl (by as_aux_lemma => kernel_rfl) (by as_aux_lemma => kernel_rfl) (by as_aux_lemma => kernel_rfl) (fun _ _ _ h => h) (Or.inl ⟨by kernel_rfl, ?_⟩) hS ?_
        · intro w hSw; (try dsimp only at hSw); obtain ⟨hSb, hl0, hl1, hl2, hl3, hl4⟩ := hSw; go_simp; all_goals (try omega)
        (try simp only [Act.put, List.getElem_toArray, List.getElem_cons_zero, List.getElem_cons_succ, List.setIfInBounds_toArray, List.set_cons_zero, List.set_cons_succ])
        refine wpAnyH_ready (rs := [5]) (by as_aux_lemma => kernel_rfl) (by simp) ?_
        refine AllReadyH.cons rfl (fun K hK => ?_) AllReadyH.nil
        go_simp
        refine Calls.mono (HIC2.out _ (rp.read inE_len) rc.read) ?_
        rintro e w66 ⟨v6, rfl, r6, hc⟩
        obtain ⟨a6, k6, rfl, -, -⟩ := r6.shape
        have s66 : D64.heap.size ≤ w66.heap.size := hc.size
        have bq := hc
        replace cR0 := cell_later bq cR0
        replace cR1 := cell_later bq cR1
        replace zR := Nat.lt_of_lt_of_le zR bq.size
        replace cS0 := cell_later bq cS0
        replace cS1 := cell_later bq cS1
        replace zS := Nat.lt_of_lt_of_le zS bq.size
        replace cT0 := cell_later bq cT0
        replace cT1 := cell_later bq cT1
        replace zT := Nat.lt_of_lt_of_le zT bq.size
        replace rp := rp.below bq
        replace rz := rz.below bq
        replace rc := rc.below bq
        replace rq := rq.below bq
        replace ry := ry.below bq
        replace rs := rs.below bq
        replace rt := rt.below bq
        replace hb := hb.trans (bq.mono hb.size)
        clear hc bq
        refine hK.out _ _ (⟨hb, cR1, cS0, cS1, cT0, cT1⟩) (fun hS => ?_)
        clear hK K
        (try simp only [Act.put, List.getElem_toArray, List.getElem_cons_zero, List.getElem_cons_succ, List.setIfInBounds_toArray, List.set_cons_zero, List.set_cons_succ])
        refine wpAnyH_take (i := 6) (v := (.slice a6 CR.length k6)) rfl (by as_aux_lemma => kernel_rfl) (by as_aux_lemma => kernel_rfl) (by as_aux_lemma => kernel_rfl) (fun _ _ _ h => h) (Or.inl ⟨by kernel_rfl, ?_⟩) hS ?_
        · intro w hSw; (try dsimp only at hSw); go_simp; all_goals (try omega)
        (try simp only [Act.put, List.getElem_toArray, List.getElem_cons_zero, List.getElem_cons_succ, List.setIfInBounds_toArray, List.set_cons_zero, List.set_cons_succ])
        refine wpAnyH_ready (rs := [9]) (by as_aux_lemma => kernel_rfl) (by simp) ?_
        refine AllReadyH.cons rfl (fun K hK => ?_) AllReadyH.nil
        go_simp
        refine Calls.mono (lwNums_yes a6 ac CR.length k6 kc CR _ r6.read rc.read (by unfold maxLen; omega)) ?_
        rintro e w67 ⟨rfl, hc⟩
        clear r6
        have s67 : w66.heap.size ≤ w67.heap.size := hc.size
        have bq := hc
        replace cR0 := cell_later bq cR0
        replace cR1 := cell_later bq cR1
        replace zR := Nat.lt_of_lt_of_le zR bq.size
        replace cS0 := cell_later bq cS0
        replace cS1 := cell_later bq cS1
        replace zS := Nat.lt_of_lt_of_le zS bq.size
        replace cT0 := cell_later bq cT0
        replace cT1 := cell_later bq cT1
        replace zT := Nat.lt_of_lt_of_le zT bq.size
        replace rp := rp.below bq
        replace rz := rz.below bq
        replace rc := rc.below bq
        replace rq := rq.below bq
        replace ry := ry.below bq
        replace rs := rs.below bq
        replace rt := rt.below bq
        replace hb := hb.trans (bq.mono hb.size)
        clear hc bq
        refine hK.out _ _ (⟨hb, cR1, cS0, cS1, cT0, cT1⟩) (fun hS => ?_)
        clear hK K
        (try simp only [Act.put, List.getElem_toArray, List.getElem_cons_zero, List.getElem_cons_succ, List.setIfInBounds_toArray, List.set_cons_zero, List.set_cons_succ])
        refine wpAnyH_take (i := 10) (v := (.bool true)) rfl (by as_aux_lemma => kernel_rfl) (by as_aux_lemma => kernel_rfl) (by as_aux_lemma => kernel_rfl) (fun _ _ _ h => h) (Or.inl ⟨by kernel_rfl, ?_⟩) hS ?_
        · intro w hSw; (try dsimp only at hSw); go_simp; all_goals (try omega)
        (try simp only [Act.put, List.getElem_toArray, List.getElem_cons_zero, List.getElem_cons_succ, List.setIfInBounds_toArray, List.set_cons_zero, List.set_cons_succ])
        refine wpAnyH_take (i := 11) (v := (.slice ap ps.length kp)) rfl (by as_aux_lemma => kernel_rfl) (by as_aux_lemma => kernel_rfl) (by as_aux_lemma => kernel_rfl) (fun _ _ _ h => h) (Or.inl ⟨by kernel_rfl, ?_⟩) hS ?_
        · intro w hSw; (try dsimp only at hSw); go_simp; all_goals (try omega)
        (try simp only [Act.put, List.getElem_toArray, List.getElem_cons_zero, List.getElem_cons_succ, List.setIfInBounds_toArray, List.set_cons_zero, List.set_cons_succ])
        refine wpAnyH_take (i := 12) (v := (.pointer (some ⟨w2.heap.size, 1, none⟩))) rfl (by as_aux_lemma => kernel_rfl) (by as_aux_lemma => kernel_rfl) (by as_aux_lemma => kernel_rfl) (fun _ _ _ h => h) (Or.inl ⟨by kernel_rfl, ?_⟩) hS ?_
        · intro w hSw; (try dsimp only at hSw); go_simp; all_goals (try omega)
        (try simp only [Act.put, List.getElem_toArray, List.getElem_cons_zero, List.getElem_cons_succ, List.setIfInBounds_toArray, List.set_cons_zero, List.set_cons_succ])
        refine wpAnyH_take (i := 13) (v := (.slice ac CR.length kc)) rfl (by as_aux_lemma => kernel_rfl) (by as_aux_lemma => kernel_rfl) (by as_aux_lemma => kernel_rfl) (fun _ _ _ h => h) (Or.inl ⟨by kernel_rfl, ?_⟩) hS ?_
        · intro w hSw; (try dsimp only at hSw); obtain ⟨hSb, hl0, hl1, hl2, hl3, hl4⟩ := hSw; go_simp; all_goals (try omega)
        (try simp only [Act.put, List.getElem_toArray, List.getElem_cons_zero, List.getElem_cons_succ, List.setIfInBounds_toArray, List.set_cons_zero, List.set_cons_succ])
        refine wpAnyH_ready (rs := [14]) (by as_aux_lemma => kernel_rfl) (by simp) ?_
        refine AllReadyH.cons rfl (fun K hK => ?_) AllReadyH.nil
        go_simp
        refine Calls.mono (HIF2.out _ (rp.read inE_len) rc.read) ?_
        rintro e w68 ⟨rfl, hc⟩
        have s68 : w67.heap.size ≤ w68.heap.size := hc.size
        have bq := hc
        replace cR0 := cell_later bq cR0
        replace cR1 := cell_later bq cR1
        replace zR := Nat.lt_of_lt_of_le zR bq.size
        replace cS0 := cell_later bq cS0
        replace cS1 := cell_later bq cS1
        replace zS := Nat.lt_of_lt_of_le zS bq.size
        replace cT0 := cell_later bq cT0
        replace cT1 := cell_later bq cT1
        replace zT := Nat.lt_of_lt_of_le zT bq.size
        replace rp := rp.below bq
        replace rz := rz.below bq
        replace rc := rc.below bq
        replace rq := rq.below bq
        replace ry := ry.below bq
        replace rs := rs.below bq
        replace rt := rt.below bq
        replace hb := hb.trans (bq.mono hb.size)
        clear hc bq
        refine hK.out _ _ (⟨hb, cR1, cS0, cS1, cT0, cT1⟩) (fun hS => ?_)
        clear hK K
        (try simp only [Act.put, List.getElem_toArray, List.getElem_cons_zero, List.getElem_cons_succ, List.setIfInBounds_toArray, List.set_cons_zero, List.set_cons_succ])
        refine wpAnyH_take (i := 15) (v := (.bool true)) rfl (by as_aux_lemma => kernel_rfl) (by as_aux_lemma => kernel_rfl) (by as_aux_lemma => kernel_rfl) (fun _ _ _ h => h) (Or.inl ⟨by kernel_rfl, ?_⟩) hS ?_
        · intro w hSw; (try dsimp only at hSw); go_simp; all_goals (try omega)
        (try simp only [Act.put, List.getElem_toArray, List.getElem_cons_zero, List.getElem_cons_succ, List.setIfInBounds_toArray, List.set_cons_zero, List.set_cons_succ])
        refine wpAnyH_take (i := 16) (v := (.bool true)) rfl (by as_aux_lemma => kernel_rfl) (by as_aux_lemma => kernel_rfl) (by as_aux_lemma => kernel_rfl) (fun _ _ _ h => h) (Or.inl ⟨by kernel_rfl, ?_⟩) hS ?_
        · intro w hSw; (try dsimp only at hSw); go_simp; all_goals (try omega)
        (try simp only [Act.put, List.getElem_toArray, List.getElem_cons_zero, List.getElem_cons_succ, List.setIfInBounds_toArray, List.set_cons_zero, List.set_cons_succ])
        refine wpAnyH_take (i := 17) (v := (.bool true)) rfl (by as_aux_lemma => kernel_rfl) (by as_aux_lemma => kernel_rfl) (by as_aux_lemma => kernel_rfl) (fun _ _ _ h => h) (Or.inl ⟨by kernel_rfl, ?_⟩) hS ?_
        · intro w hSw; (try dsimp only at hSw); go_simp; all_goals (try omega)
        (try simp only [Act.put, List.getElem_toArray, List.getElem_cons_zero, List.getElem_cons_succ, List.setIfInBounds_toArray, List.set_cons_zero, List.set_cons_succ])
        refine wpAnyH_take (i := 18) (v := (.pointer (some ⟨w2.heap.size, 1, none⟩))) rfl (by as_aux_lemma => kernel_rfl) (by as_aux_lemma => kernel_rfl) (by as_aux_lemma => kernel_rfl) (fun _ _ _ h => h) (Or.inl ⟨by kernel_rfl, ?_⟩) hS ?_
        · intro w hSw; (try dsimp only at hSw); go_simp; all_goals (try omega)
        (try simp only [Act.put, List.getElem_toArray, List.getElem_cons_zero, List.getElem_cons_succ, List.setIfInBounds_toArray, List.set_cons_zero, List.set_cons_succ])
        refine wpAnyH_take (i := 19) (v := (.slice ac CR.length kc)) rfl (by as_aux_lemma => kernel_rfl) (by as_aux_lemma => kernel_rfl) (by as_aux_lemma => kernel_rfl) (fun _ _ _ h => h) (Or.inl ⟨by kernel_rfl, ?_⟩) hS ?_
        · intro w hSw; (try dsimp only at hSw); obtain ⟨hSb, hl0, hl1, hl2, hl3, hl4⟩ := hSw; go_simp; all_goals (try omega)
        (try simp only [Act.put, List.getElem_toArray, List.getElem_cons_zero, List.getElem_cons_succ, List.setIfInBounds_toArray, List.set_cons_zero, List.set_cons_succ])
        refine wpAnyH_take (i := 20) (v := (.slice ap ps.length kp)) rfl (by as_aux_lemma => kernel_rfl) (by as_aux_lemma => kernel_rfl) (by as_aux_lemma => kernel_rfl) (fun _ _ _ h => h) (Or.inl ⟨by kernel_rfl, ?_⟩) hS ?_
        · intro w hSw; (try dsimp only at hSw); go_simp; all_goals (try omega)
        (try simp only [Act.put, List.getElem_toArray, List.getElem_cons_zero, List.getElem_cons_succ, List.setIfInBounds_toArray, List.set_cons_zero, List.set_cons_succ])
        refine wpAnyH_take (i := 21) (v := (.slice az zs.length kz)) rfl (by as_aux_lemma => kernel_rfl) (by as_aux_lemma => kernel_rfl) (by as_aux_lemma => kernel_rfl) (fun _ _ _ h => h) (Or.inl ⟨by kernel_rfl, ?_⟩) hS ?_
        · intro w hSw; (try dsimp only at hSw); go_simp; all_goals (try omega)
        (try simp only [Act.put, List.getElem_toArray, List.getElem_cons_zero, List.getElem_cons_succ, List.setIfInBounds_toArray, List.set_cons_zero, List.set_cons_succ])
        refine wpAnyH_take (i := 22) (v := (.bool bx)) rfl (by as_aux_lemma => kernel_rfl) (by as_aux_lemma => kernel_rfl) (by as_aux_lemma => kernel_rfl) (fun _ _ _ h => h) (Or.inl ⟨by kernel_rfl, ?_⟩) hS ?_
        · intro w hSw; (try dsimp only at hSw); go_simp; all_goals (try omega)
        (try simp only [Act.put, List.getElem_toArray, List.getElem_cons_zero, List.getElem_cons_succ, List.setIfInBounds_toArray, List.set_cons_zero, List.set_cons_succ])
        refine wpAnyH_take (i := 23) (v := (.bool by')) rfl (by as_aux_lemma => kernel_rfl) (by as_aux_lemma => kernel_rfl) (by as_aux_lemma => kernel_rfl) (fun _ _ _ h => h) (Or.inl ⟨by kernel_rfl, ?_⟩) hS ?_
        · intro w hSw; (try dsimp only at hSw); go_simp; all_goals (try omega)
        (try simp only [Act.put, List.getElem_toArray, List.getElem_cons_zero, List.getElem_cons_succ, List.setIfInBounds_toArray, List.set_cons_zero, List.set_cons_succ])
        refine wpAnyH_ready (rs := [24]) (by as_aux_lemma => kernel_rfl) (by simp) ?_
        refine AllReadyH.cons rfl (fun K hK => ?_) AllReadyH.nil
        go_simp
        refine Calls.mono (HSC.out _ (rp.read inE_len) rz.read) ?_
        rintro e w69 ⟨v7, rfl, r7, hc⟩
        obtain ⟨a7, k7, rfl, -, -⟩ := r7.shape
        have s69 : w68.heap.size ≤ w69.heap.size := hc.size
        have bq := hc
        replace cR0 := cell_later bq cR0
        replace cR1 := cell_later bq cR1
        replace zR := Nat.lt_of_lt_of_le zR bq.size
        replace cS0 := cell_later bq cS0
        replace cS1 := cell_later bq cS1
        replace zS := Nat.lt_of_lt_of_le zS bq.size
        replace cT0 := cell_later bq cT0
        replace cT1 := cell_later bq cT1
        replace zT := Nat.lt_of_lt_of_le zT bq.size
        replace rp := rp.below bq
        replace rz := rz.below bq
        replace rc := rc.below bq
        replace rq := rq.below bq
        replace ry := ry.below bq
        replace rs := rs.below bq
        replace rt := rt.below bq
        replace hb := hb.trans (bq.mono hb.size)
        clear hc bq
        refine hK.out _ _ (⟨hb, cR1, cS0, cS1, cT0, cT1⟩) (fun hS => ?_)
        clear hK K
        (try simp only [Act.put, List.getElem_toArray, List.getElem_cons_zero, List.getElem_cons_succ, List.setIfInBounds_toArray, List.set_cons_zero, List.set_cons_succ])
        refine wpAnyH_take (i := 25) (v := (.slice a7 CR.length k7)) rfl (by as_aux_lemma => kernel_rfl) (by as_aux_lemma => kernel_rfl) (by as_aux_lemma => kernel_rfl) (fun _ _ _ h => h) (Or.inl ⟨by kernel_rfl, ?_⟩) hS ?_
        · intro w hSw; (try dsimp only at hSw); go_simp; all_goals (try omega)
        (try simp only [Act.put, List.getElem_toArray, List.getElem_cons_zero, List.getElem_cons_succ, List.setIfInBounds_toArray, List.set_cons_zero, List.set_cons_succ])
        refine wpAnyH_ready (rs := [26]) (by as_aux_lemma => kernel_rfl) (by simp) ?_
        refine AllReadyH.cons rfl (fun K hK => ?_) AllReadyH.nil
        go_simp
        refine Calls.mono (lwNums_yes ac a7 CR.length kc k7 CR _ rc.read r7.read (by unfold maxLen; omega)) ?_
        rintro e w70 ⟨rfl, hc⟩
        clear r7
        have s70 : w69.heap.size ≤ w70.heap.size := hc.size
        have bq := hc
        replace cR0 := cell_later bq cR0
        replace cR1 := cell_later bq cR1
        replace zR := Nat.lt_of_lt_of_le zR bq.size
        replace cS0 := cell_later bq cS0
        replace cS1 := cell_later bq cS1
        replace zS := Nat.lt_of_lt_of_le zS bq.size
        replace cT0 := cell_later bq cT0
        replace cT1 := cell_later bq cT1
        replace zT := Nat.lt_of_lt_of_le zT bq.size
        replace rp := rp.below bq
        replace rz := rz.below bq
        replace rc := rc.below bq
        replace rq := rq.below bq
        replace ry := ry.below bq
        replace rs := rs.below bq
        replace rt := rt.below bq
        replace hb := hb.trans (bq.mono hb.size)
        clear hc bq
        refine hK.out _ _ (⟨hb, cR1, cS0, cS1, cT0, cT1⟩) (fun hS => ?_)
        clear hK K
        (try simp only [Act.put, List.getElem_toArray, List.getElem_cons_zero, List.getElem_cons_succ, List.setIfInBounds_toArray, List.set_cons_zero, List.set_cons_succ])
        refine wpAnyH_take (i := 27) (v := (.bool true)) rfl (by as_aux_lemma => kernel_rfl) (by as_aux_lemma => kernel_rfl) (by as_aux_lemma => kernel_rfl) (fun _ _ _ h => h) (Or.inl ⟨by kernel_rfl, ?_⟩) hS ?_
        · intro w hSw; (try dsimp only at hSw); go_simp; all_goals (try omega)
        (try simp only [Act.put, List.getElem_toArray, List.getElem_cons_zero, List.getElem_cons_succ, List.setIfInBounds_toArray, List.set_cons_zero, List.set_cons_succ])
        refine wpAnyH_take (i := 28) (v := (.bool true)) rfl (by as_aux_lemma => kernel_rfl) (by as_aux_lemma => kernel_rfl) (by as_aux_lemma => kernel_rfl) (fun _ _ _ h => h) (Or.inl ⟨by kernel_rfl, ?_⟩) hS ?_
        · intro w hSw; (try dsimp only at hSw); go_simp; all_goals (try omega)
        (try simp only [Act.put, List.getElem_toArray, List.getElem_cons_zero, List.getElem_cons_succ, List.setIfInBounds_toArray, List.set_cons_zero, List.set_cons_succ])
        refine wpAnyH_take (i := 29) (v := (.pointer (some ⟨w62.heap.size, 0, none⟩))) rfl (by as_aux_lemma => kernel_rfl) (by as_aux_lemma => kernel_rfl) (by as_aux_lemma => kernel_rfl) (fun _ _ _ h => h) (Or.inl ⟨by kernel_rfl, ?_⟩) hS ?_
        · intro w hSw; (try dsimp only at hSw); go_simp; all_goals (try omega)
        (try simp only [Act.put, List.getElem_toArray, List.getElem_cons_zero, List.getElem_cons_succ, List.setIfInBounds_toArray, List.set_cons_zero, List.set_cons_succ])
        refine wpAnyH_take (i := 30) (v := (.int .i64 G)) rfl (by as_aux_lemma => kernel_rfl) (by as_aux_lemma => kernel_rfl) (by as_aux_lemma => kernel_rfl) (fun _ _ _ h => h) (Or.inl ⟨by kernel_rfl, ?_⟩) hS ?_
        · intro w hSw; (try dsimp only at hSw); obtain ⟨hSb, hl0, hl1, hl2, hl3, hl4⟩ := hSw; go_simp; all_goals (try omega)
        (try simp only [Act.put, List.getElem_toArray, List.getElem_cons_zero, List.getElem_cons_succ, List.setIfInBounds_toArray, List.set_cons_zero, List.set_cons_succ])
        refine wpAnyH_take (i := 31) (v := (.pointer (some ⟨w63.heap.size, 0, none⟩))) rfl (by as_aux_lemma => kernel_rfl) (by as_aux_lemma => kernel_rfl) (by as_aux_lemma => kernel_rfl) (fun _ _ _ h => h) (Or.inl ⟨by kernel_rfl, ?_⟩) hS ?_
        · intro w hSw; (try dsimp only at hSw); go_simp; all_goals (try omega)
        (try simp only [Act.put, List.getElem_toArray, List.getElem_cons_zero, List.getElem_cons_succ, List.setIfInBounds_toArray, List.set_cons_zero, List.set_cons_succ])
        refine wpAnyH_take (i := 32) (v := (.int .i64 G)) rfl (by as_aux_lemma => kernel_rfl) (by as_aux_lemma => kernel_rfl) (by as_aux_lemma => kernel_rfl) (fun _ _ _ h => h) (Or.inl ⟨by kernel_rfl, ?_⟩) hS ?_
        · intro w hSw; (try dsimp only at hSw); obtain ⟨hSb, hl0, hl1, hl2, hl3, hl4⟩ := hSw; go_simp; all_goals (try omega)
        (try simp only [Act.put, List.getElem_toArray, List.getElem_cons_zero, List.getElem_cons_succ, List.setIfInBounds_toArray, List.set_cons_zero, List.set_cons_succ])
        refine wpAnyH_take (i := 33) (v := (.bool true)) rfl (by as_aux_lemma => kernel_rfl) (by as_aux_lemma => kernel_rfl) (by as_aux_lemma => kernel_rfl) (fun _ _ _ h => h) (Or.inl ⟨by kernel_rfl, ?_⟩) hS ?_
        · intro w hSw; (try dsimp only at hSw); go_simp; all_goals (try omega)
        (try simp only [Act.put, List.getElem_toArray, List.getElem_cons_zero, List.getElem_cons_succ, List.setIfInBounds_toArray, List.set_cons_zero, List.set_cons_succ])
        refine wpAnyH_take (i := 34) (v := (.bool true)) rfl (by as_aux_lemma => kernel_rfl) (by as_aux_lemma => kernel_rfl) (by as_aux_lemma => kernel_rfl) (fun _ _ _ h => h) (Or.inl ⟨by kernel_rfl, ?_⟩) hS ?_
        · intro w hSw; (try dsimp only at hSw); go_simp; all_goals (try omega)
        (try simp only [Act.put, List.getElem_toArray, List.getElem_cons_zero, List.getElem_cons_succ, List.setIfInBounds_toArray, List.set_cons_zero, List.set_cons_succ])
        refine wpAnyH_take (i := 35) (v := (.bool true)) rfl (by as_aux_lemma => kernel_rfl) (by as_aux_lemma => kernel_rfl) (by as_aux_lemma => kernel_rfl) (fun _ _ _ h => h) (Or.inl ⟨by kernel_rfl, ?_⟩) hS ?_
        · intro w hSw; (try dsimp only at hSw); go_simp; all_goals (try omega)
        (try simp only [Act.put, List.getElem_toArray, List.getElem_cons_zero, List.getElem_cons_succ, List.setIfInBounds_toArray, List.set_cons_zero, List.set_cons_succ])
        refine wpAnyH_take (i := 36) (v := (.pointer (some ⟨w62.heap.size, 1, none⟩))) rfl (by as_aux_lemma => kernel_rfl) (by as_aux_lemma => kernel_rfl) (by as_aux_lemma => kernel_rfl) (fun _ _ _ h => h) (Or.inl ⟨by kernel_rfl, ?_⟩) hS ?_
        · intro w hSw; (try dsimp only at hSw); go_simp; all_goals (try omega)
        (try simp only [Act.put, List.getElem_toArray, List.getElem_cons_zero, List.getElem_cons_succ, List.setIfInBounds_toArray, List.set_cons_zero, List.set_cons_succ])
        refine wpAnyH_take (i := 37) (v := (.slice as' SR.length ks)) rfl (by as_aux_lemma => kernel_rfl) (by as_aux_lemma => kernel_rfl) (by as_aux_lemma => kernel_rfl) (fun _ _ _ h => h) (Or.inl ⟨by kernel_rfl, ?_⟩) hS ?_
        · intro w hSw; (try dsimp only at hSw); obtain ⟨hSb, hl0, hl1, hl2, hl3, hl4⟩ := hSw; go_simp; all_goals (try omega)
        (try simp only [Act.put, List.getElem_toArray, List.getElem_cons_zero, List.getElem_cons_succ, List.setIfInBounds_toArray, List.set_cons_zero, List.set_cons_succ])
        refine wpAnyH_take (i := 38) (v := (.pointer (some ⟨w63.heap.size, 1, none⟩))) rfl (by as_aux_lemma => kernel_rfl) (by as_aux_lemma => kernel_rfl) (by as_aux_lemma => kernel_rfl) (fun _ _ _ h => h) (Or.inl ⟨by kernel_rfl, ?_⟩) hS ?_
        · intro w hSw; (try dsimp only at hSw); go_simp; all_goals (try omega)
        (try simp only [Act.put, List.getElem_toArray, List.getElem_cons_zero, List.getElem_cons_succ, List.setIfInBounds_toArray, List.set_cons_zero, List.set_cons_succ])
        refine wpAnyH_take (i := 39) (v := (.slice at' SR.length kt)) rfl (by as_aux_lemma => kernel_rfl) (by as_aux_lemma => kernel_rfl) (by as_aux_lemma => kernel_rfl) (fun _ _ _ h => h) (Or.inl ⟨by kernel_rfl, ?_⟩) hS ?_
        · intro w hSw; (try dsimp only at hSw); obtain ⟨hSb, hl0, hl1, hl2, hl3, hl4⟩ := hSw; go_simp; all_goals (try omega)
        (try simp only [Act.put, List.getElem_toArray, List.getElem_cons_zero, List.getElem_cons_succ, List.setIfInBounds_toArray, List.set_cons_zero, List.set_cons_succ])
        refine wpAnyH_ready (rs := [40]) (by as_aux_lemma => kernel_rfl) (by simp) ?_
        refine AllReadyH.cons rfl (fun K hK => ?_) AllReadyH.nil
        go_simp
        refine Calls.mono (lwNums_yes as' at' SR.length ks kt SR _ rs.read rt.read (by unfold maxLen; omega)) ?_
        rintro e w71 ⟨rfl, hc⟩
        have s71 : w70.heap.size ≤ w71.heap.size := hc.size
        have bq := hc
        replace cR0 := cell_later bq cR0
        replace cR1 := cell_later bq cR1
        replace zR := Nat.lt_of_lt_of_le zR bq.size
        replace cS0 := cell_later bq cS0
        replace cS1 := cell_later bq cS1
        replace zS := Nat.lt_of_lt_of_le zS bq.size
        replace cT0 := cell_later bq cT0
        replace cT1 := cell_later bq cT1
        replace zT := Nat.lt_of_lt_of_le zT bq.size
        replace rp := rp.below bq
        replace rz := rz.below bq
        replace rc := rc.below bq
        replace rq := rq.below bq
        replace ry := ry.below bq
        replace rs := rs.below bq
        replace rt := rt.below bq
        replace hb := hb.trans (bq.mono hb.size)
        clear hc bq
        refine hK.out _ _ (⟨hb, cR1, cS0, cS1, cT0, cT1⟩) (fun hS => ?_)
        clear hK K
        (try simp only [Act.put, List.getElem_toArray, List.getElem_cons_zero, List.getElem_cons_succ, List.setIfInBounds_toArray, List.set_cons_zero, List.set_cons_succ])
        refine wpAnyH_take (i := 41) (v := (.bool true)) rfl (by as_aux_lemma => kernel_rfl) (by as_aux_lemma => kernel_rfl) (by as_aux_lemma => kernel_rfl) (fun _ _ _ h => h) (Or.inl ⟨by kernel_rfl, ?_⟩) hS ?_
        · intro w hSw; (try dsimp only at hSw); go_simp; all_goals (try omega)
        (try simp only [Act.put, List.getElem_toArray, List.getElem_cons_zero, List.getElem_cons_succ, List.setIfInBounds_toArray, List.set_cons_zero, List.set_cons_succ])
        refine wpAnyH_take (i := 42) (v := (.bool true)) rfl (by as_aux_lemma => kernel_rfl) (by as_aux_lemma => kernel_rfl) (by as_aux_lemma => kernel_rfl) (fun _ _ _ h => h) (Or.inl ⟨by kernel_rfl, ?_⟩) hS ?_
        · intro w hSw; (try dsimp only at hSw); go_simp; all_goals (try omega)
        (try simp only [Act.put, List.getElem_toArray, List.getElem_cons_zero, List.getElem_cons_succ, List.setIfInBounds_toArray, List.set_cons_zero, List.set_cons_succ])
        refine wpAnyH_done (by kernel_rfl) ?_ _
        clear hS
        go_wp2
        go_ret
        exact ⟨rfl, hb⟩
  · skip
    generalize clRes ps zs bx by' = CR at *
    generalize setFault ps zs = F at *
    have HIC := hid IC
    have HSC := hid SC
    have HIF := hid IF
    clear IC SC IF hsum hkp1 hkp2 hkz1 hkz2 ha
    go_wp2_with fail
    refine Calls.mono (HIC.out _ (rp.read inE_len) rz.read) ?_
    rintro e w2 ⟨v1, rfl, r1, hc⟩
    obtain ⟨a1, k1, rfl, -, -⟩ := r1.shape
    clear r1
    have s2 : w1.heap.size ≤ w2.heap.size := hc.size
    have bq := hc
    replace rp := rp.below bq
    replace rz := rz.below bq
    replace hb := hb.trans (bq.mono hb.size)
    clear hc bq
    go_wp2_with fail
    have bp : ∀ o0, Below w2.heap.size w2 (w2.alloc o0) := fun o0 => (Below.refl _ _).alloc (Nat.le_refl _) o0
    have hbt : ∀ o0, Below w.heap.size w (w2.alloc o0) := fun o0 => hb.trans ((bp o0).mono hb.size)
    obtain ⟨w3, hw3⟩ : ∃ x, (w2.alloc (.cells #[.int .i64 F, .slice a1 CR.length k1] 64)) = x := ⟨_, rfl⟩
    have hc : Below ((w2.alloc (.cells #[.int .i64 F, .slice a1 CR.length k1] 64))).heap.size ((w2.alloc (.cells #[.int .i64 F, .slice a1 CR.length k1] 64))) w3 := hw3 ▸ Below.refl _ _
    have s3 : w2.heap.size + 1 ≤ w3.heap.size := by have := hc.size; simp at this; omega
    have bq : Below w2.heap.size w2 w3 := (bp _).trans (hc.mono (bp _).size)
    have cR0 : w3.cell? ⟨w2.heap.size, 0, none⟩ = some (.int .i64 F) := cell_later hc (by simp [go_sem])
    have cR1 : w3.cell? ⟨w2.heap.size, 1, none⟩ = some (.slice a1 CR.length k1) := cell_later hc (by simp [go_sem])
    have zR : w2.heap.size < w3.heap.size := by omega
    replace rp := rp.below bq
    replace rz := rz.below bq
    replace hb := hb.trans (bq.mono hb.size)
    clear hc bq bp hbt
    rw [hw3]
    clear hw3
    have bd : Below w3.heap.size w3 w3.drew := (Below.refl _ _).drew
    refine wp_region_held_drew (S := fun w' => Below w.heap.size w w' ∧ w'.cell? ⟨w2.heap.size, 0, none⟩ = some (.int .i64 F)) (by kernel_rfl) ⟨(hb.trans (bd.mono hb.size)), cell_later bd cR0⟩ (fun hS => ?_)
    obtain ⟨D3, hD⟩ : ∃ D, w3.drew = D := ⟨_, rfl⟩
    rw [hD] at hS bd ⊢
    have hc := bd
    clear hD bd
    have s4 : w3.heap.size ≤ D3.heap.size := hc.size
    have bq := hc
    replace cR0 := cell_later bq cR0
    replace cR1 := cell_later bq cR1
    replace zR := Nat.lt_of_lt_of_le zR bq.size
    replace rp := rp.below bq
    replace rz := rz.below bq
    replace hb := hb.trans (bq.mono hb.size)
    clear hc bq
    refine wpAnyH_take (i := 0) (v := (.slice ap ps.length kp)) rfl (by as_aux_lemma => kernel_rfl) (by as_aux_lemma => kernel_rfl) (by as_aux_lemma => kernel_rfl) (fun _ _ _ h => h) (Or.inl ⟨by kernel_rfl, ?_⟩) hS ?_
    · intro w hSw; (try dsimp only at hSw); go_simp; all_goals (try omega)
    (try simp only [Act.put, List.getElem_toArray, List.getElem_cons_zero, List.getElem_cons_succ, List.setIfInBounds_toArray, List.set_cons_zero, List.set_cons_succ])
    refine wpAnyH_take (i := 1) (v := (.slice az zs.length kz)) rfl (by as_aux_lemma => kernel_rfl) (by as_aux_lemma => kernel_rfl) (by as_aux_lemma => kernel_rfl) (fun _ _ _ h => h) (Or.inl ⟨by kernel_rfl, ?_⟩) hS ?_
    · intro w hSw; (try dsimp only at hSw); go_simp; all_goals (try omega)
    (try simp only [Act.put, List.getElem_toArray, List.getElem_cons_zero, List.getElem_cons_succ, List.setIfInBounds_toArray, List.set_cons_zero, List.set_cons_succ])
    refine wpAnyH_take (i := 2) (v := (.bool bx)) rfl (by as_aux_lemma => kernel_rfl) (by as_aux_lemma => kernel_rfl) (by as_aux_lemma => kernel_rfl) (fun _ _ _ h => h) (Or.inl ⟨by kernel_rfl, ?_⟩) hS ?_
    · intro w hSw; (try dsimp only at hSw); go_simp; all_goals (try omega)
    (try simp only [Act.put, List.getElem_toArray, List.getElem_cons_zero, List.getElem_cons_succ, List.setIfInBounds_toArray, List.set_cons_zero, List.set_cons_succ])
    refine wpAnyH_take (i := 3) (v := (.bool by')) rfl (by as_aux_lemma => kernel_rfl) (by as_aux_lemma => kernel_rfl) (by as_aux_lemma => kernel_rfl) (fun _ _ _ h => h) (Or.inl ⟨by kernel_rfl, ?_⟩) hS ?_
    · intro w hSw; (try dsimp only at hSw); go_simp; all_goals (try omega)
    (try simp only [Act.put, List.getElem_toArray, List.getElem_cons_zero, List.getElem_cons_succ, List.setIfInBounds_toArray, List.set_cons_zero, List.set_cons_succ])
    refine wpAnyH_take (i := 6) (v := (.pointer (some ⟨w2.heap.size, 0, none⟩))) rfl (by as_aux_lemma => kernel_rfl) (by as_aux_lemma => kernel_rfl) (by as_aux_lemma => kernel_rfl) (fun _ _ _ h => h) (Or.inl ⟨by kernel_rfl, ?_⟩) hS ?_
    · intro w hSw; (try dsimp only at hSw); go_simp; all_goals (try omega)
    (try simp only [Act.put, List.getElem_toArray, List.getElem_cons_zero, List.getElem_cons_succ, List.setIfInBounds_toArray, List.set_cons_zero, List.set_cons_succ])
    refine wpAnyH_take (i := 7) (v := (.int .i64 F)) rfl (by as_aux_lemma => kernel_rfl) (by as_aux_lemma => kernel_rfl) (by as_aux_lemma => kernel_rfl) (fun _ _ _ h => h) (Or.inl ⟨by kernel_rfl, ?_⟩) hS ?_
    · intro w hSw; (try dsimp only at hSw); obtain ⟨hSb, hl0⟩ := hSw; go_simp; all_goals (try omega)
    (try simp only [Act.put, List.getElem_toArray, List.getElem_cons_zero, List.getElem_cons_succ, List.setIfInBounds_toArray, List.set_cons_zero, List.set_cons_succ])
    refine wpAnyH_ready (rs := [4]) (by as_aux_lemma => kernel_rfl) (by simp) ?_
    refine AllReadyH.cons rfl (fun K hK => ?_) AllReadyH.nil
    go_simp
    refine Calls.mono (HSC.out _ (rp.read inE_len) rz.read) ?_
    rintro e w5 ⟨v2, rfl, r2, hc⟩
    obtain ⟨a2, k2, rfl, -, -⟩ := r2.shape
    clear r2
    have s5 : D3.heap.size ≤ w5.heap.size := hc.size
    have bq := hc
    replace cR0 := cell_later bq cR0
    replace cR1 := cell_later bq cR1
    replace zR := Nat.lt_of_lt_of_le zR bq.size
    replace rp := rp.below bq
    replace rz := rz.below bq
    replace hb := hb.trans (bq.mono hb.size)
    clear hc bq
    refine hK.out _ _ (⟨hb, cR0⟩) (fun hS => ?_)
    clear hK K
    (try simp only [Act.put, List.getElem_toArray, List.getElem_cons_zero, List.getElem_cons_succ, List.setIfInBounds_toArray, List.set_cons_zero, List.set_cons_succ])
    refine wpAnyH_take (i := 5) (v := (.int .i64 F)) rfl (by as_aux_lemma => kernel_rfl) (by as_aux_lemma => kernel_rfl) (by as_aux_lemma => kernel_rfl) (fun _ _ _ h => h) (Or.inl ⟨by kernel_rfl, ?_⟩) hS ?_
    · intro w hSw; (try dsimp only at hSw); go_simp; all_goals (try omega)
    (try simp only [Act.put, List.getElem_toArray, List.getElem_cons_zero, List.getElem_cons_succ, List.setIfInBounds_toArray, List.set_cons_zero, List.set_cons_succ])
    refine wpAnyH_take (i := 8) (v := (.bool true)) rfl (by as_aux_lemma => kernel_rfl) (by as_aux_lemma => kernel_rfl) (by as_aux_lemma => kernel_rfl) (fun _ _ _ h => h) (Or.inl ⟨by kernel_rfl, ?_⟩) hS ?_
    · intro w hSw; (try dsimp only at hSw); go_simp; all_goals (try omega)
    (try simp only [Act.put, List.getElem_toArray, List.getElem_cons_zero, List.getElem_cons_succ, List.setIfInBounds_toArray, List.set_cons_zero, List.set_cons_succ])
    refine wpAnyH_take (i := 9) (v := (.bool true)) rfl (by as_aux_lemma => kernel_rfl) (by as_aux_lemma => kernel_rfl) (by as_aux_lemma => kernel_rfl) (fun _ _ _ h => h) (Or.inl ⟨by kernel_rfl, ?_⟩) hS ?_
    · intro w hSw; (try dsimp only at hSw); go_simp; all_goals (try omega)
    (try simp only [Act.put, List.getElem_toArray, List.getElem_cons_zero, List.getElem_cons_succ, List.setIfInBounds_toArray, List.set_cons_zero, List.set_cons_succ])
    refine wpAnyH_take (i := 10) (v := (.slice ap ps.length kp)) rfl (by as_aux_lemma => kernel_rfl) (by as_aux_lemma => kernel_rfl) (by as_aux_lemma => kernel_rfl) (fun _ _ _ h => h) (Or.inl ⟨by kernel_rfl, ?_⟩) hS ?_
    · intro w hSw; (try dsimp only at hSw); go_simp; all_goals (try omega)
    (try simp only [Act.put, List.getElem_toArray, List.getElem_cons_zero, List.getElem_cons_succ, List.setIfInBounds_toArray, List.set_cons_zero, List.set_cons_succ])
    refine wpAnyH_take (i := 11) (v := (.slice az zs.length kz)) rfl (by as_aux_lemma => kernel_rfl) (by as_aux_lemma => kernel_rfl) (by as_aux_lemma => kernel_rfl) (fun _ _ _ h => h) (Or.inl ⟨by kernel_rfl, ?_⟩) hS ?_
    · intro w hSw; (try dsimp only at hSw); go_simp; all_goals (try omega)
    (try simp only [Act.put, List.getElem_toArray, List.getElem_cons_zero, List.getElem_cons_succ, List.setIfInBounds_toArray, List.set_cons_zero, List.set_cons_succ])
    refine wpAnyH_take (i := 13) (v := (.pointer (some ⟨w2.heap.size, 0, none⟩))) rfl (by as_aux_lemma => kernel_rfl) (by as_aux_lemma => kernel_rfl) (by as_aux_lemma => kernel_rfl) (fun _ _ _ h => h) (Or.inl ⟨by kernel_rfl, ?_⟩) hS ?_
    · intro w hSw; (try dsimp only at hSw); go_simp; all_goals (try omega)
    (try simp only [Act.put, List.getElem_toArray, List.getElem_cons_zero, List.getElem_cons_succ, List.setIfInBounds_toArray, List.set_cons_zero, List.set_cons_succ])
    refine wpAnyH_take (i := 14) (v := (.int .i64 F)) rfl (by as_aux_lemma => kernel_rfl) (by as_aux_lemma => kernel_rfl) (by as_aux_lemma => kernel_rfl) (fun _ _ _ h => h) (Or.inl ⟨by kernel_rfl, ?_⟩) hS ?_
    · intro w hSw; (try dsimp only at hSw); obtain ⟨hSb, hl0⟩ := hSw; go_simp; all_goals (try omega)
    (try simp only [Act.put, List.getElem_toArray, List.getElem_cons_zero, List.getElem_cons_succ, List.setIfInBounds_toArray, List.set_cons_zero, List.set_cons_succ])
    refine wpAnyH_ready (rs := [12]) (by as_aux_lemma => kernel_rfl) (by simp) ?_
    refine AllReadyH.cons rfl (fun K hK => ?_) AllReadyH.nil
    go_simp
    refine Calls.mono (HIF.out _ (rp.read inE_len) rz.read) ?_
    rintro e w6 ⟨rfl, hc⟩
    have s6 : w5.heap.size ≤ w6.heap.size := hc.size
    have bq := hc
    replace cR0 := cell_later bq cR0
    replace cR1 := cell_later bq cR1
    replace zR := Nat.lt_of_lt_of_le zR bq.size
    replace rp := rp.below bq
    replace rz := rz.below bq
    replace hb := hb.trans (bq.mono hb.size)
    clear hc bq
    refine hK.out _ _ (⟨hb, cR0⟩) (fun hS => ?_)
    clear hK K
    (try simp only [Act.put, List.getElem_toArray, List.getElem_cons_zero, List.getElem_cons_succ, List.setIfInBounds_toArray, List.set_cons_zero, List.set_cons_succ])
    refine wpAnyH_take (i := 15) (v := (.bool true)) rfl (by as_aux_lemma => kernel_rfl) (by as_aux_lemma => kernel_rfl) (by as_aux_lemma => kernel_rfl) (fun _ _ _ h => h) (Or.inl ⟨by kernel_rfl, ?_⟩) hS ?_
    · intro w hSw; (try dsimp only at hSw); go_simp; all_goals (try omega)
    (try simp only [Act.put, List.getElem_toArray, List.getElem_cons_zero, List.getElem_cons_succ, List.setIfInBounds_toArray, List.set_cons_zero, List.set_cons_succ])
    refine wpAnyH_take (i := 16) (v := (.bool true)) rfl (by as_aux_lemma => kernel_rfl) (by as_aux_lemma => kernel_rfl) (by as_aux_lemma => kernel_rfl) (fun _ _ _ h => h) (Or.inl ⟨by kernel_rfl, ?_⟩) hS ?_
    · intro w hSw; (try dsimp only at hSw); go_simp; all_goals (try omega)
    (try simp only [Act.put, List.getElem_toArray, List.getElem_cons_zero, List.getElem_cons_succ, List.setIfInBounds_toArray, List.set_cons_zero, List.set_cons_succ])
    refine wpAnyH_take (i := 17) (v := (.bool true)) rfl (by as_aux_lemma => kernel_rfl) (by as_aux_lemma => kernel_rfl) (by as_aux_lemma => kernel_rfl) (fun _ _ _ h => h) (Or.inl ⟨by kernel_rfl, ?_⟩) hS ?_
    · intro w hSw; (try dsimp only at hSw); go_simp; all_goals (try omega)
    (try simp only [Act.put, List.getElem_toArray, List.getElem_cons_zero, List.getElem_cons_succ, List.setIfInBounds_toArray, List.set_cons_zero, List.set_cons_succ])
    refine wpAnyH_done (by kernel_rfl) ?_ _
    clear hS
    go_wp2
    go_ret
    exact ⟨rfl, hb⟩
end Go.Proofs.Ytocophekfbhfbaa

namespace Go.Proofs.Ytocophekfbhfbaa.fnCloses
open Go.ChangeShapes Go.WideShapes Go.ChangeAt Go.RowKit
set_option linter.unusedVariables false

theorem own : ownKnob Try.prog.godebug = none := by kernel_rfl
theorem laidOut : laidOutB Try.prog = true := by kernel_rfl

set_option maxRecDepth 100000 in
theorem lifted (os : Os) (started : os.Started) (H : Type) (enc : TypeId × Value → H) :
    ReturnsInHanded {} Try.checked os 5 .any (Rows.fnClosesSpec.pre6 enc Try.prog Try.f5 Rows.fnClosesRow.domain false) (Rows.fnClosesSpec.post enc Try.prog Try.f5 false true false false) := by
  refine returnsInHanded_of_change (C := Try.checked) own started (by kernel_rfl) Try.func5
    (ChangeSpec.witness6 (enc := enc) (C := Try.checked) false ⟨#[], #[.slice none 0 0], []⟩ 8 (by kernel_rfl) (by kernel_rfl) (by kernel_rfl) (by kernel_rfl)) ?_
  intro W base args ds gs before hval0 hW hcnd _
  have hval : ∀ (j : Nat) t v, Try.f5.params[j]? = some t → args[j]? = some v → Value.okWide Try.prog W .any base t v := hval0
  have hW' := hW
  obtain ⟨p, q, hA0, hV, rfl, hfz, hnd⟩ := hW
  have hA : DataW.TrodAll enc Try.prog W 0 (fun _ => true) true Try.f5.params.toList args.toList ds p := hA0
  rw [Try.params5] at hA hval
  obtain ⟨v0, d0, rfl, rfl, h0⟩ := trodAll_one hA
  obtain ⟨rfl, rfl⟩ := trodVars_none hV
  obtain ⟨a0, len0, cap0, rfl⟩ := okWide_slice Try.underlying22 (hval 0 22 v0 rfl rfl)
  have k0 := h0
  have lt0 : ∀ x ∈ p, x.block < W.heap.size := by obtain ⟨m, hm⟩ := k0; exact DataW.trod_lt m _ _ _ hm
  obtain ⟨x0, hr0, hB0, hm0⟩ := open_bytes Try.underlying22 Try.underlying5 (by kernel_rfl) h0
  clear hA0 hval0
  refine (closesWalk a0 len0 cap0 x0 W hr0 hB0 hm0).mono fun e W' ⟨he, bel⟩ => ?_
  subst he
  exact ⟨_, rfl, _, _, _, [], _, [], hW', trodAll_mk1 (shut_bool Try.underlying4 _), trodAll_mk1 (Below.trod laidOut (by kernel_rfl) (of_decide_eq_true (by kernel_rfl)) k0 bel lt0), rfl, bel.frame _, fun h => by cases h⟩

theorem proved : Rows.FnClosesSaid :=
  OpenClaim.holds_of_wide 5 Try.f5 rfl rfl rfl rfl rfl rfl rfl ⟨rfl, rfl, rfl, rfl, rfl⟩ rfl rfl rfl rfl rfl (by kernel_rfl) Try.func5 (by kernel_rfl)
    (of_decide_eq_true (by kernel_rfl)) (by unfold Func.isWrapper; first | (rw [if_pos (by decide +kernel)]; kernel_rfl) | (rw [if_neg (by decide +kernel)]; exact ⟨rfl, rfl⟩))
    (fun os started H enc _ => lifted os started H enc)
end Go.Proofs.Ytocophekfbhfbaa.fnCloses
namespace Go.Proofs.Ytocophekfbhfbaa
theorem fnCloses_proved : Rows.FnClosesSaid := fnCloses.proved
end Go.Proofs.Ytocophekfbhfbaa
