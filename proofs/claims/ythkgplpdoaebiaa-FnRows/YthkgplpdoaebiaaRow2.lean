/-
  The cells of a row: contracts of both sides.
-/
import Derived.Test.YthkgplpdoaebiaaRow1
import Derived.Test.YthkgplpdoaebiaaAppR
namespace Go.Proofs.Ythkgplpdoaebiaa
open Go.RowKit
set_option linter.unusedVariables false
set_option linter.unusedSimpArgs false

/-- from which cell on a row goes, and how far -/
def rFrom (C : Bool) (W S R : Int) (m : Nat) : Nat := min (if C = true then S else R * W).toNat m
def rTo (C : Bool) (W S R : Int) (m : Nat) : Nat := min m (rFrom C W S R m + W.toNat)
def rowOf (C : Bool) (W S R : Int) (cs : List C3) : List C3 := (cs.drop (rFrom C W S R cs.length)).take (rTo C W S R cs.length - rFrom C W S R cs.length)
theorem rF_le (C : Bool) (W S R : Int) (m : Nat) : rFrom C W S R m ≤ rTo C W S R m ∧ rTo C W S R m ≤ m := by
  unfold rTo rFrom; omega
theorem mul_bd {R W : Int} (hR : 0 ≤ R) (hR2 : R ≤ 2000) (hW : 1 ≤ W) (hW2 : W ≤ 40) : 0 ≤ R * W ∧ R * W ≤ 80000 := by
  refine ⟨Int.mul_nonneg hR (by omega), ?_⟩
  calc R * W ≤ 2000 * W := Int.mul_le_mul_of_nonneg_right hR2 (by omega)
    _ ≤ 80000 := by omega

/-- the part of a row that a slice expression gives -/
theorem part_rd {α : Type} {enc : α → List Value} {size : Nat} {w : World} {a : Option Addr} {N cap : Nat} {XS : List α} (h : RdR enc size w a N XS) (F T : Nat) (hF : F ≤ T) (hT : T ≤ N) (hN : N ≤ cap) :
    RdR enc size w (if cap = F then a else a.map (·.add (F * size))) (T - F) ((XS.drop F).take (T - F)) := by
  refine h.cut F (T - F) (by omega) _ fun hn g off ha => ?_
  subst ha
  rw [if_neg (by omega)]
  simp [Addr.add_lit]
theorem part_own {α : Type} {enc : α → List Value} {size : Nat} {e : TypeId} {w : World} {lo hi : Nat} {a : Option Addr} {N cap : Nat} {XS : List α} (he : ∀ x, (enc x).length = size) (h : RowS enc size e w lo hi (.slice a N cap) N XS) (F T : Nat) (hF : F ≤ T) (hT : T ≤ N) :
    RowO enc size e w lo hi (.slice (if cap = F then a else a.map (·.add (F * size))) (T - F) (cap - F)) (T - F) ((XS.drop F).take (T - F)) := by
  refine ⟨_, N, F, XS, h, by omega, rfl, _, _, rfl, fun hn => ?_⟩
  obtain ⟨a', cap', hv, hn1, hn2⟩ := h.shape he
  simp only [Value.slice.injEq] at hv
  obtain ⟨rfl, -, rfl⟩ := hv
  rcases h.1.2.2 with ⟨h0, h1⟩ | ⟨g, c, cur, h0, _⟩
  · omega
  · simp only [Value.slice.injEq] at h0
    obtain ⟨rfl, -, rfl⟩ := h0
    exact ⟨g, cap, rfl, by rw [if_neg (by omega)]; simp [Addr.add_lit]⟩

theorem rFrom_chop {W S R : Int} {m : Nat} (h : 0 ≤ S) : ((rFrom true W S R m : Nat) : Int) = min S (m : Int) := by
  unfold rFrom; rw [if_pos rfl]; omega
theorem rFrom_rows {W S R : Int} {m : Nat} (h : 0 ≤ R * W) : ((rFrom false W S R m : Nat) : Int) = min (R * W) (m : Int) := by
  unfold rFrom; rw [if_neg (by simp)]; omega
theorem rTo_is {C : Bool} {W S R : Int} {m : Nat} (h : 1 ≤ W) : ((rTo C W S R m : Nat) : Int) = min (m : Int) ((rFrom C W S R m : Nat) + W) := by
  unfold rTo; omega

set_option maxHeartbeats 3200000 in
theorem l10Cells_any (b : Nat) (a : Option Addr) (n ca : Nat) (xs : List Int) (W S R : Int) (C : Bool) (w : World) (ha : Rd .u8 w a n xs) (hB : Bytes xs) (h1 : n ≤ 400) (hW : 1 ≤ W) (hW2 : W ≤ 40) (hS : 0 ≤ S) (hS2 : S ≤ 400) (hR : 0 ≤ R) (hR2 : R ≤ 2000)
    (c0 : w.cell? ⟨b, 0, none⟩ = some (.int .i64 W)) (c1 : w.cell? ⟨b, 1, none⟩ = some (.bool C)) (c2 : w.cell? ⟨b, 2, none⟩ = some (.int .i64 S)) :
    Calls Try.prog 62 #[.slice a n ca, .pointer (some ⟨b, 0, none⟩), .int .i64 R] w fun e w' => ∃ v cap, e = .returned (.slice v (rowOf C W S R (cellsAll xs)).length cap) ∧ RdR cellE 3 w' v (rowOf C W S R (cellsAll xs)).length (rowOf C W S R (cellsAll xs)) ∧ Below w.heap.size w w' := by
  obtain ⟨hM1, hM2⟩ := mul_bd hR hR2 hW hW2
  have hMw : wrap64 (R * W) = R * W := by generalize R * W = M at *; unfold wrap64; omega
  have hlc : (cellsAll xs).length ≤ 1600 := by have h2 := cellsAll_len hB; have h3 := ha.1; omega
  have CC := l1Cells_any a n ca xs w ha hB h1
  have hle := rF_le C W S R (cellsAll xs).length
  have hTI := rTo_is (C := C) (S := S) (R := R) (m := (cellsAll xs).length) hW
  have hFI : ((rFrom C W S R (cellsAll xs).length : Nat) : Int) = min (if C = true then S else R * W) ((cellsAll xs).length : Int) := by
    cases C
    · exact rFrom_rows hM1
    · exact rFrom_chop hS
  have hlen : (rowOf C W S R (cellsAll xs)).length = rTo C W S R (cellsAll xs).length - rFrom C W S R (cellsAll xs).length := by unfold rowOf; simp; omega
  rw [hlen]
  unfold rowOf
  clear hlen
  generalize rFrom C W S R (cellsAll xs).length = F at *
  generalize rTo C W S R (cellsAll xs).length = T at *
  generalize cellsAll xs = cs at *
  generalize hm : cs.length = m at *
  clear hm
  have HC : Hid _ := CC
  clear CC
  have hMw2 : ∃ M : Int, wrap64 (R * W) = M ∧ R * W = M := ⟨_, hMw, rfl⟩
  clear hMw
  obtain ⟨M, hMw, hRM⟩ := hMw2
  rw [hRM] at hFI hM1 hM2
  clear hRM
  have q3 : min (m : Int) ((F : Int) + W) = (T : Int) := hTI.symm
  clear hTI
  obtain ⟨hle1, hle2⟩ := hle
  have hfin : ∀ (w' : World) (av : Option Addr) (cap : Nat), RdR cellE 3 w' av m cs → m ≤ cap → RdR cellE 3 w' (if cap = F then av else av.map (·.add (F * 3))) (T - F) ((cs.drop F).take (T - F)) := fun w' av cap h hmc => part_rd h F T hle1 hle2 hmc
  have HFIN : Hid _ := hfin
  clear hfin
  cases C
  · simp only [Bool.false_eq_true, if_false] at hFI
    have q1 : min M (m : Int) = (F : Int) := hFI.symm
    clear hFI
    go_enter Try.func62, Try.ntmps62
    have hb : Below w.heap.size w w := Below.refl _ _
    replace hb := hb
    go_wp2_with fail
    refine Calls.mono (HC.out) ?_
    rintro e w1 ⟨v, rfl, ho, hc⟩
    obtain ⟨av, cap, hv, hrd, hmc, hmm⟩ := ho.rd cellE_len
    subst hv
    have HMM : Hid _ := hmm
    clear hmm
    have s1 : w.heap.size ≤ w1.heap.size := hc.size
    have bq := hc
    replace hb := hb.trans (bq.mono hb.size)
    clear hc bq
    replace c0 := cell_later hb c0
    replace c1 := cell_later hb c1
    replace c2 := cell_later hb c2
    by_cases hcf : cap = F
    all_goals
      go_wp2_with (go_at_call 84; refine (l1Min_any _ _ _).mono ?_; rintro e w2 ⟨rfl, rfl⟩)
      go_ret
      have hfin := HFIN.out _ av cap hrd hmc
      first | rw [if_pos hcf] at hfin | rw [if_neg hcf] at hfin
      exact ⟨_, _, rfl, hfin, hb⟩
  · simp only [if_true] at hFI
    have q1 : min S (m : Int) = (F : Int) := hFI.symm
    clear hFI
    go_enter Try.func62, Try.ntmps62
    have hb : Below w.heap.size w w := Below.refl _ _
    replace hb := hb
    go_wp2_with fail
    refine Calls.mono (HC.out) ?_
    rintro e w1 ⟨v, rfl, ho, hc⟩
    obtain ⟨av, cap, hv, hrd, hmc, hmm⟩ := ho.rd cellE_len
    subst hv
    have HMM : Hid _ := hmm
    clear hmm
    have s1 : w.heap.size ≤ w1.heap.size := hc.size
    have bq := hc
    replace hb := hb.trans (bq.mono hb.size)
    clear hc bq
    replace c0 := cell_later hb c0
    replace c1 := cell_later hb c1
    replace c2 := cell_later hb c2
    by_cases hcf : cap = F
    all_goals
      go_wp2_with (go_at_call 84; refine (l1Min_any _ _ _).mono ?_; rintro e w2 ⟨rfl, rfl⟩)
      go_ret
      have hfin := HFIN.out _ av cap hrd hmc
      first | rw [if_pos hcf] at hfin | rw [if_neg hcf] at hfin
      exact ⟨_, _, rfl, hfin, hb⟩

/-- what RowCells tells -/
def rwC (xs : List Int) (W : Int) (C : Bool) (S R : Int) : Int := if askF xs W C S ≠ 0 then askF xs W C S else if R < 0 ∨ (lnRows C W xs : Nat) ≤ R then 3 else 0
def rwRes (xs : List Int) (W : Int) (C : Bool) (S R : Int) : List C3 := if rwC xs W C S R = 0 then rowOf C W S R (cellsAll xs) else []
theorem askF_ok {xs : List Int} {W : Int} {C : Bool} {S : Int} (h : askF xs W C S = 0) : lyF W C S = 0 ∧ xs.length ≤ 400 := by
  unfold askF at h
  split at h
  · omega
  · split at h <;> omega
theorem lnRows_le {C : Bool} {W : Int} {xs : List Int} (hB : Bytes xs) (hn : xs.length ≤ 400) (hW : 1 ≤ W) : lnRows C W xs ≤ 1601 := by
  have h1 := cellsAll_len hB
  have h2 := rwN_le (C := C) (n := (cellsAll xs).length) hW
  unfold lnRows; omega
theorem rwRes_len {xs : List Int} {W : Int} {C : Bool} {S R : Int} (hB : Bytes xs) : (rwRes xs W C S R).length ≤ 1600 := by
  unfold rwRes
  split
  · rename_i h
    have h1 := cellsAll_len hB
    have h2 : askF xs W C S = 0 := by
      unfold rwC at h
      split at h
      · assumption
      · omega
    have := (askF_ok h2).2
    unfold rowOf; simp; omega
  · simp

theorem cellE_one2 : ∀ c : C3, ∀ u ∈ cellE c, u.oneCell' = true := by
  intro c u hu
  simp [cellE] at hu
  rcases hu with rfl | rfl | rfl <;> rfl
theorem own_emptyC (w : World) (base : Nat) (hb : base ≤ w.heap.size) : OwnR cellE 3 38 (w.alloc (.cells #[] 38)) base (.slice (some ⟨w.heap.size, 0, none⟩) 0 0) 0 ([] : List C3) :=
  ⟨rfl, World.ownsRow_made w #[] 0 hb (by simp [maxLen]) rfl⟩

set_option maxHeartbeats 3200000 in
theorem specRowCells_any (a : Option Addr) (n ca : Nat) (xs : List Int) (W S R : Int) (C : Bool) (w : World) (ha : Rd .u8 w a n xs) (hB : Bytes xs) (h1 : n ≤ 1073741824) :
    Calls Try.prog 28 #[.slice a n ca, .agg #[.int .i64 W, .bool C, .int .i64 S], .int .i64 R] w fun e w' => ∃ v, e = .returned (.agg #[.int .i64 (rwC xs W C S R), v]) ∧ RowS cellE 3 38 w' w.heap.size w'.heap.size v (rwRes xs W C S R).length (rwRes xs W C S R) ∧ Below w.heap.size w w' := by
  have hlen := ha.1
  have A := fun w' h c0 c1 c2 => (l10Asked_any w.heap.size a n ca xs W S C w' h h1 c0 c1 c2).mono (fun e w'' h => (⟨h.1, h.2 ▸ Below.refl _ _⟩ : e = .returned (.int .i64 (askF xs W C S)) ∧ Below w'.heap.size w' w''))
  by_cases hF : askF xs W C S = 0
  · obtain ⟨hL, hn⟩ := askF_ok hF
    obtain ⟨hW, hW2, hS, hS2, -⟩ := lyF_ok hL
    rw [hF] at A
    have hkl := lnRows_le (C := C) hB hn hW
    have KC := fun w' h c0 c1 c2 => l10Count_any w.heap.size a n ca xs W S C w' h hB (by omega) hW hW2 c0 c1 c2
    have IN := fun w' => (l1In_any R 0 ((lnRows C W xs : Nat) - 1) w').mono (fun e w'' h => (⟨h.1, h.2 ▸ Below.refl _ _⟩ : e = .returned (.bool (decide (0 ≤ R ∧ R ≤ ((lnRows C W xs : Nat) : Int) - 1))) ∧ Below w'.heap.size w' w''))
    have hHA : Hid _ := A
    by_cases hR : 0 ≤ R ∧ R < (lnRows C W xs : Nat)
    · have e1 : rwC xs W C S R = 0 := by unfold rwC; rw [if_neg (by omega), if_neg (by omega)]
      have e2 : rwRes xs W C S R = rowOf C W S R (cellsAll xs) := by unfold rwRes; rw [if_pos e1]
      have hrl := rwRes_len (W := W) (C := C) (S := S) (R := R) hB
      rw [e1]
      rw [e2] at hrl ⊢
      have LC := fun w' h c0 c1 c2 => l10Cells_any w.heap.size a n ca xs W S R C w' h hB (by omega) hW hW2 hS hS2 hR.1 (by omega) c0 c1 c2
      rw [show decide (0 ≤ R ∧ R ≤ ((lnRows C W xs : Nat) : Int) - 1) = true from decide_eq_true (by omega)] at IN
      clear e1 e2 hR
      generalize lnRows C W xs = k at *
      generalize rowOf C W S R (cellsAll xs) = rs at *
      generalize hm : rs.length = m at *
      clear hm
      have HKC : Hid _ := KC
      have HIN : Hid _ := IN
      have HLC : Hid _ := LC
      clear A KC IN LC hF hL
      obtain ⟨i0, hi, hz0, hz1, hz2⟩ := info_parts infoC1
      go_enter Try.func28, Try.ntmps28
      have hb : Below w.heap.size w w := Below.refl _ _
      go_wp2_with fail
      have bp : ∀ o0 o1, Below w.heap.size w ((w.alloc o0).alloc o1) := fun o0 o1 => ((Below.refl _ _).alloc (Nat.le_refl _) o0).alloc (by simp) o1
      have hbt : ∀ o0 o1, Below w.heap.size w ((w.alloc o0).alloc o1) := fun o0 o1 => hb.trans ((bp o0 o1).mono hb.size)
      refine Calls.mono (hHA.out _ (ha.below (hbt _ _)) (by simp [go_sem]) (by simp [go_sem]) (by simp [go_sem])) ?_
      rintro e w1 ⟨rfl, hc⟩
      have s1 : w.heap.size + 2 ≤ w1.heap.size := by have := hc.size; simp at this; omega
      have bq : Below w.heap.size w w1 := (bp _ _).trans (hc.mono (bp _ _).size)
      have cL0 : w1.cell? ⟨w.heap.size, 0, none⟩ = some (.int .i64 W) := cell_later hc (by simp [go_sem])
      have cL1 : w1.cell? ⟨w.heap.size, 1, none⟩ = some (.bool C) := cell_later hc (by simp [go_sem])
      have cL2 : w1.cell? ⟨w.heap.size, 2, none⟩ = some (.int .i64 S) := cell_later hc (by simp [go_sem])
      have zL : w.heap.size < w1.heap.size := by omega
      have cR0 : w1.cell? ⟨w.heap.size + 1, 0, none⟩ = some (.int .i64 0) := cell_later hc (by simp [go_sem])
      have fR0 : w1.frozen? ⟨w.heap.size + 1, 0, none⟩ = false := (hc.frozen (p := ⟨w.heap.size + 1, 0, none⟩) (by first | (simp; done) | (simp; omega))).trans (by simp [go_sem])
      have cR1 : w1.cell? ⟨w.heap.size + 1, 1, none⟩ = some (.slice none 0 0) := cell_later hc (by simp [go_sem])
      have fR1 : w1.frozen? ⟨w.heap.size + 1, 1, none⟩ = false := (hc.frozen (p := ⟨w.heap.size + 1, 1, none⟩) (by first | (simp; done) | (simp; omega))).trans (by simp [go_sem])
      have zR : w.heap.size + 1 < w1.heap.size := by omega
      replace hb := hb.trans (bq.mono hb.size)
      clear hc bq bp hbt
      go_wp2_with fail
      refine Calls.mono (HKC.out _ (ha.below hb) cL0 cL1 cL2) ?_
      rintro e w2 ⟨rfl, hc⟩
      have s2 : w1.heap.size ≤ w2.heap.size := hc.size
      have bq := hc
      replace cL0 := cell_later bq cL0
      replace cL1 := cell_later bq cL1
      replace cL2 := cell_later bq cL2
      replace zL := Nat.lt_of_lt_of_le zL bq.size
      replace cR0 := cell_later bq cR0
      replace fR0 := (bq.frozen (p := ⟨w.heap.size + 1, 0, none⟩) zR).trans fR0
      replace cR1 := cell_later bq cR1
      replace fR1 := (bq.frozen (p := ⟨w.heap.size + 1, 1, none⟩) zR).trans fR1
      replace zR := Nat.lt_of_lt_of_le zR bq.size
      replace hb := hb.trans (bq.mono hb.size)
      clear hc bq
      go_wp2_with fail
      refine Calls.mono (HIN.out _) ?_
      rintro e w3 ⟨rfl, hc⟩
      have s3 : w2.heap.size ≤ w3.heap.size := hc.size
      have bq := hc
      replace cL0 := cell_later bq cL0
      replace cL1 := cell_later bq cL1
      replace cL2 := cell_later bq cL2
      replace zL := Nat.lt_of_lt_of_le zL bq.size
      replace cR0 := cell_later bq cR0
      replace fR0 := (bq.frozen (p := ⟨w.heap.size + 1, 0, none⟩) zR).trans fR0
      replace cR1 := cell_later bq cR1
      replace fR1 := (bq.frozen (p := ⟨w.heap.size + 1, 1, none⟩) zR).trans fR1
      replace zR := Nat.lt_of_lt_of_le zR bq.size
      replace hb := hb.trans (bq.mono hb.size)
      clear hc bq
      go_wp2_with fail
      have rE0 := own_emptyC w3 w3.heap.size (Nat.le_refl _)
      have zE0 : w.heap.size + 1 < w3.heap.size := zR
      have bp : ∀ o0, Below w3.heap.size w3 (w3.alloc o0) := fun o0 => (Below.refl _ _).alloc (Nat.le_refl _) o0
      have hbt : ∀ o0, Below w.heap.size w (w3.alloc o0) := fun o0 => hb.trans ((bp o0).mono hb.size)
      refine Calls.mono (HLC.out _ (ha.below (hbt _)) (cell_later (bp _) cL0) (cell_later (bp _) cL1) (cell_later (bp _) cL2)) ?_
      rintro e w4 ⟨vq, cq, rfl, hrq, hc⟩
      have rE := rE0.below hc
      clear rE0
      have s4 : w3.heap.size + 1 ≤ w4.heap.size := by have := hc.size; simp at this; omega
      have bq : Below w3.heap.size w3 w4 := (bp _).trans (hc.mono (bp _).size)
      replace cL0 := cell_later bq cL0
      replace cL1 := cell_later bq cL1
      replace cL2 := cell_later bq cL2
      replace zL := Nat.lt_of_lt_of_le zL bq.size
      replace cR0 := cell_later bq cR0
      replace fR0 := (bq.frozen (p := ⟨w.heap.size + 1, 0, none⟩) zR).trans fR0
      replace cR1 := cell_later bq cR1
      replace fR1 := (bq.frozen (p := ⟨w.heap.size + 1, 1, none⟩) zR).trans fR1
      replace zR := Nat.lt_of_lt_of_le zR bq.size
      have zE : w3.heap.size < w4.heap.size := by omega
      replace hb := hb.trans (bq.mono hb.size)
      clear hc bq bp hbt
      go_wp2_with (at_builtin; refine wpList_append_rdR rfl cellE_len cellE_one2 _ _ 32 rfl w3.heap.size 38 i0 _ 24 Try.underlying32 hi hz0 hz1 hz2 rfl (by decide) _ 0 [] rfl rE vq m cq rs rfl hrq (by unfold maxLen; omega) (by omega) (by omega) ?_)
      intro v5 w5 ho5 hg5
      simp only [Value.ownBlock] at hg5
      obtain ⟨a5, c5, hv5, -⟩ := ho5.rd cellE_len
      subst hv5
      have hb5 := hb.grown hg5 hb.size (fun j hj => by simp at hj; omega)
      have cR0' : w5.cell? ⟨w.heap.size + 1, 0, none⟩ = some (.int .i64 0) := hg5.cell cR0 (by simp; omega)
      have cR1' : w5.cell? ⟨w.heap.size + 1, 1, none⟩ = some (.slice none 0 0) := hg5.cell cR1 (by simp; omega)
      have fR0' : w5.frozen? ⟨w.heap.size + 1, 0, none⟩ = false := (World.frozen?_of_block (hg5.block _ zR (by simp; omega))).trans fR0
      have fR1' : w5.frozen? ⟨w.heap.size + 1, 1, none⟩ = false := (World.frozen?_of_block (hg5.block _ zR (by simp; omega))).trans fR1
      clear cR0 cR1 fR0 fR1 hg5 hb
      go_wp2
      refine bodyPost_ret (v := .agg #[.int .i64 0, .slice a5 m c5]) (by simp [results, Try.results28, go_sem, cR0', cR1']) rfl ⟨_, rfl, RowS.of (((ho5.setBelow (by simp; omega) _).setBelow (by simp; omega) _).up (by omega)), (hb5.setCell (by simp) _).setCell (by simp) _⟩
    · have e1 : rwC xs W C S R = 3 := by unfold rwC; rw [if_neg (by omega), if_pos (by omega)]
      have e2 : rwRes xs W C S R = [] := by unfold rwRes; rw [if_neg (by omega)]
      rw [e1, e2]
      rw [show decide (0 ≤ R ∧ R ≤ ((lnRows C W xs : Nat) : Int) - 1) = false from decide_eq_false (by omega)] at IN
      clear e1 e2 hR
      generalize lnRows C W xs = k at *
      have HKC : Hid _ := KC
      have HIN : Hid _ := IN
      clear A KC IN hF hL
      go_enter Try.func28, Try.ntmps28
      have hb : Below w.heap.size w w := Below.refl _ _
      go_wp2_with fail
      have bp : ∀ o0 o1, Below w.heap.size w ((w.alloc o0).alloc o1) := fun o0 o1 => ((Below.refl _ _).alloc (Nat.le_refl _) o0).alloc (by simp) o1
      have hbt : ∀ o0 o1, Below w.heap.size w ((w.alloc o0).alloc o1) := fun o0 o1 => hb.trans ((bp o0 o1).mono hb.size)
      refine Calls.mono (hHA.out _ (ha.below (hbt _ _)) (by simp [go_sem]) (by simp [go_sem]) (by simp [go_sem])) ?_
      rintro e w1 ⟨rfl, hc⟩
      have s1 : w.heap.size + 2 ≤ w1.heap.size := by have := hc.size; simp at this; omega
      have bq : Below w.heap.size w w1 := (bp _ _).trans (hc.mono (bp _ _).size)
      have cL0 : w1.cell? ⟨w.heap.size, 0, none⟩ = some (.int .i64 W) := cell_later hc (by simp [go_sem])
      have cL1 : w1.cell? ⟨w.heap.size, 1, none⟩ = some (.bool C) := cell_later hc (by simp [go_sem])
      have cL2 : w1.cell? ⟨w.heap.size, 2, none⟩ = some (.int .i64 S) := cell_later hc (by simp [go_sem])
      have zL : w.heap.size < w1.heap.size := by omega
      have cR0 : w1.cell? ⟨w.heap.size + 1, 0, none⟩ = some (.int .i64 0) := cell_later hc (by simp [go_sem])
      have fR0 : w1.frozen? ⟨w.heap.size + 1, 0, none⟩ = false := (hc.frozen (p := ⟨w.heap.size + 1, 0, none⟩) (by first | (simp; done) | (simp; omega))).trans (by simp [go_sem])
      have cR1 : w1.cell? ⟨w.heap.size + 1, 1, none⟩ = some (.slice none 0 0) := cell_later hc (by simp [go_sem])
      have fR1 : w1.frozen? ⟨w.heap.size + 1, 1, none⟩ = false := (hc.frozen (p := ⟨w.heap.size + 1, 1, none⟩) (by first | (simp; done) | (simp; omega))).trans (by simp [go_sem])
      have zR : w.heap.size + 1 < w1.heap.size := by omega
      replace hb := hb.trans (bq.mono hb.size)
      clear hc bq bp hbt
      go_wp2_with fail
      refine Calls.mono (HKC.out _ (ha.below hb) cL0 cL1 cL2) ?_
      rintro e w2 ⟨rfl, hc⟩
      have s2 : w1.heap.size ≤ w2.heap.size := hc.size
      have bq := hc
      replace cL0 := cell_later bq cL0
      replace cL1 := cell_later bq cL1
      replace cL2 := cell_later bq cL2
      replace zL := Nat.lt_of_lt_of_le zL bq.size
      replace cR0 := cell_later bq cR0
      replace fR0 := (bq.frozen (p := ⟨w.heap.size + 1, 0, none⟩) zR).trans fR0
      replace cR1 := cell_later bq cR1
      replace fR1 := (bq.frozen (p := ⟨w.heap.size + 1, 1, none⟩) zR).trans fR1
      replace zR := Nat.lt_of_lt_of_le zR bq.size
      replace hb := hb.trans (bq.mono hb.size)
      clear hc bq
      go_wp2_with fail
      refine Calls.mono (HIN.out _) ?_
      rintro e w3 ⟨rfl, hc⟩
      have s3 : w2.heap.size ≤ w3.heap.size := hc.size
      have bq := hc
      replace cL0 := cell_later bq cL0
      replace cL1 := cell_later bq cL1
      replace cL2 := cell_later bq cL2
      replace zL := Nat.lt_of_lt_of_le zL bq.size
      replace cR0 := cell_later bq cR0
      replace fR0 := (bq.frozen (p := ⟨w.heap.size + 1, 0, none⟩) zR).trans fR0
      replace cR1 := cell_later bq cR1
      replace fR1 := (bq.frozen (p := ⟨w.heap.size + 1, 1, none⟩) zR).trans fR1
      replace zR := Nat.lt_of_lt_of_le zR bq.size
      replace hb := hb.trans (bq.mono hb.size)
      clear hc bq
      go_wp2
      exact bodyPost_ret (v := .agg #[.int .i64 3, .slice none 0 0]) (by simp [results, Try.results28, go_sem, cR0, cR1]) rfl ⟨_, rfl, RowS.nil _ _ _ _ _ _, ((hb.setCell (by first | omega | (simp; omega) | simp) _).setCell (by first | omega | (simp; omega) | simp) _)⟩
  · have e1 : rwC xs W C S R = askF xs W C S := by unfold rwC; rw [if_pos hF]
    have e2 : rwRes xs W C S R = [] := by unfold rwRes; rw [if_neg (by rw [e1]; exact hF)]
    rw [e1, e2]
    generalize askF xs W C S = F at *
    have hHA : Hid _ := A
    clear A e1 e2
    go_enter Try.func28, Try.ntmps28
    have hb : Below w.heap.size w w := Below.refl _ _
    go_wp2_with fail
    have bp : ∀ o0 o1, Below w.heap.size w ((w.alloc o0).alloc o1) := fun o0 o1 => ((Below.refl _ _).alloc (Nat.le_refl _) o0).alloc (by simp) o1
    have hbt : ∀ o0 o1, Below w.heap.size w ((w.alloc o0).alloc o1) := fun o0 o1 => hb.trans ((bp o0 o1).mono hb.size)
    refine Calls.mono (hHA.out _ (ha.below (hbt _ _)) (by simp [go_sem]) (by simp [go_sem]) (by simp [go_sem])) ?_
    rintro e w1 ⟨rfl, hc⟩
    have s1 : w.heap.size + 2 ≤ w1.heap.size := by have := hc.size; simp at this; omega
    have bq : Below w.heap.size w w1 := (bp _ _).trans (hc.mono (bp _ _).size)
    have cL0 : w1.cell? ⟨w.heap.size, 0, none⟩ = some (.int .i64 W) := cell_later hc (by simp [go_sem])
    have cL1 : w1.cell? ⟨w.heap.size, 1, none⟩ = some (.bool C) := cell_later hc (by simp [go_sem])
    have cL2 : w1.cell? ⟨w.heap.size, 2, none⟩ = some (.int .i64 S) := cell_later hc (by simp [go_sem])
    have zL : w.heap.size < w1.heap.size := by omega
    have cR0 : w1.cell? ⟨w.heap.size + 1, 0, none⟩ = some (.int .i64 0) := cell_later hc (by simp [go_sem])
    have fR0 : w1.frozen? ⟨w.heap.size + 1, 0, none⟩ = false := (hc.frozen (p := ⟨w.heap.size + 1, 0, none⟩) (by first | (simp; done) | (simp; omega))).trans (by simp [go_sem])
    have cR1 : w1.cell? ⟨w.heap.size + 1, 1, none⟩ = some (.slice none 0 0) := cell_later hc (by simp [go_sem])
    have fR1 : w1.frozen? ⟨w.heap.size + 1, 1, none⟩ = false := (hc.frozen (p := ⟨w.heap.size + 1, 1, none⟩) (by first | (simp; done) | (simp; omega))).trans (by simp [go_sem])
    have zR : w.heap.size + 1 < w1.heap.size := by omega
    replace hb := hb.trans (bq.mono hb.size)
    clear hc bq bp hbt
    go_wp2
    exact bodyPost_ret (v := .agg #[.int .i64 F, .slice none 0 0]) (by simp [results, Try.results28, go_sem, cR0, cR1]) rfl ⟨_, rfl, RowS.nil _ _ _ _ _ _, ((hb.setCell (by first | omega | (simp; omega) | simp) _).setCell (by first | omega | (simp; omega) | simp) _)⟩
theorem rFrom_any {C : Bool} {W S R : Int} {m : Nat} (h : 0 ≤ R * W) (hS : 0 ≤ S) (h1 : C = true → R = 0) (h2 : C = false → S = 0) : min (S + R * W) (m : Int) = ((rFrom C W S R m : Nat) : Int) := by
  cases C
  · rw [rFrom_rows h, h2 rfl]; congr 1; omega
  · rw [rFrom_chop hS, h1 rfl, Int.zero_mul]; congr 1; omega
theorem RowO.empty {α : Type} (enc : α → List Value) (size : Nat) (e : TypeId) (w : World) (lo hi : Nat) (a : Option Addr) (cap : Nat) : RowO enc size e w lo hi (.slice a 0 cap) 0 ([] : List α) :=
  ⟨_, 0, 0, [], RowS.nil _ _ _ _ _ _, Nat.le_refl _, rfl, _, _, rfl, fun h => absurd h (by omega)⟩
theorem RowO.nil {α : Type} (enc : α → List Value) (size : Nat) (e : TypeId) (w : World) (lo hi : Nat) : RowO enc size e w lo hi (.slice none 0 0) 0 ([] : List α) := RowO.empty enc size _ _ _ _ _ _

set_option maxHeartbeats 3200000 in
theorem implRowCells_any (a : Option Addr) (n ca : Nat) (xs : List Int) (W S R : Int) (C : Bool) (w : World) (ha : Rd .u8 w a n xs) (hB : Bytes xs) (h1 : n ≤ 1073741824) (hca : n ≤ ca) (hcm : ca ≤ maxLen) :
    Calls Try.prog 17 #[.slice a n ca, .agg #[.int .i64 W, .bool C, .int .i64 S], .int .i64 R] w fun e w' => ∃ v, e = .returned (.agg #[.int .i64 (rwC xs W C S R), v]) ∧ RowO cellE 3 38 w' w.heap.size w'.heap.size v (rwRes xs W C S R).length (rwRes xs W C S R) ∧ Below w.heap.size w w' := by
  have hlen := ha.1
  have LF := fun w' => implLayoutFault_any W S C w'
  have CO := fun w' h => implCellsOf_any a n ca xs w' h hB h1 hca hcm
  by_cases hL : lyF W C S = 0
  · obtain ⟨hW, hW2, hS, hS2, hCS⟩ := lyF_ok hL
    rw [hL] at LF
    have HL : Hid _ := LF
    clear LF
    by_cases hn : n ≤ 400
    · have hA : askF xs W C S = 0 := by unfold askF; rw [if_neg (by omega), if_neg (by omega)]
      have e3 : cellsCode xs = 0 := by unfold cellsCode; rw [if_neg (by omega)]
      have e4 : cellsRes xs = cellsAll xs := by unfold cellsRes; rw [if_neg (by omega)]
      rw [e3, e4] at CO
      have hlc : (cellsAll xs).length ≤ 1600 := by have h2 := cellsAll_len hB; omega
      have RF := fun w' => rowsFor_any W S C (cellsAll xs).length w' hW hW2 (by omega)
      have hkl := lnRows_le (C := C) hB (by omega) hW
      by_cases hR : 0 ≤ R ∧ R < (lnRows C W xs : Nat)
      · have e1 : rwC xs W C S R = 0 := by unfold rwC; rw [if_neg (by omega), if_neg (by omega)]
        have e2 : rwRes xs W C S R = rowOf C W S R (cellsAll xs) := by unfold rwRes; rw [if_pos e1]
        have hRC : C = true → R = 0 := fun h => by
          have : lnRows C W xs = 1 := by unfold lnRows rwN; rw [if_pos (Or.inl h)]
          omega
        obtain ⟨hM1, hM2⟩ := mul_bd hR.1 (by omega) hW hW2
        have hMw : wrap64 (R * W) = R * W := by generalize R * W = M at *; unfold wrap64; omega
        have hle := rF_le C W S R (cellsAll xs).length
        have q3 := rTo_is (C := C) (S := S) (R := R) (m := (cellsAll xs).length) hW
        have q1 := rFrom_any (C := C) (W := W) (S := S) (R := R) (m := (cellsAll xs).length) hM1 hS hRC hCS
        have hlen2 : (rowOf C W S R (cellsAll xs)).length = rTo C W S R (cellsAll xs).length - rFrom C W S R (cellsAll xs).length := by unfold rowOf; simp; omega
        rw [e1, e2, hlen2]
        unfold rowOf
        unfold lnRows at hR hkl
        clear e1 e2 hlen2 hA e3 e4 hRC hCS
        generalize rFrom C W S R (cellsAll xs).length = F at *
        generalize rTo C W S R (cellsAll xs).length = T at *
        generalize hk : rwN C W (cellsAll xs).length = k at *
        generalize cellsAll xs = cs at *
        generalize hm : cs.length = m at *
        clear hm hk
        have hMw2 : ∃ M : Int, wrap64 (R * W) = M ∧ R * W = M := ⟨_, hMw, rfl⟩
        clear hMw
        obtain ⟨M, hMw, hRM⟩ := hMw2
        rw [hRM] at q1 hM1 hM2
        clear hRM
        obtain ⟨hle1, hle2⟩ := hle
        obtain ⟨hR0, hR1⟩ := hR
        have Q1 : Hid _ := q1
        have q4 : min ((F : Int) + W) (m : Int) = (T : Int) := by omega
        have Q3 : Hid _ := q4
        have HC : Hid _ := CO
        have HR : Hid _ := RF
        clear q1 q3 q4 CO RF hL
        go_enter Try.func17, Try.ntmps17
        have hb : Below w.heap.size w w := Below.refl _ _
        go_wp2_with fail
        have bp : ∀ o0 o1, Below w.heap.size w ((w.alloc o0).alloc o1) := fun o0 o1 => ((Below.refl _ _).alloc (Nat.le_refl _) o0).alloc (by simp) o1
        have hbt : ∀ o0 o1, Below w.heap.size w ((w.alloc o0).alloc o1) := fun o0 o1 => hb.trans ((bp o0 o1).mono hb.size)
        refine Calls.mono (HL.out _) ?_
        rintro e w1 ⟨rfl, hc⟩
        have s1 : w.heap.size + 2 ≤ w1.heap.size := by have := hc.size; simp at this; omega
        have bq : Below w.heap.size w w1 := (bp _ _).trans (hc.mono (bp _ _).size)
        have cL0 : w1.cell? ⟨w.heap.size, 0, none⟩ = some (.int .i64 W) := cell_later hc (by simp [go_sem])
        have cL1 : w1.cell? ⟨w.heap.size, 1, none⟩ = some (.bool C) := cell_later hc (by simp [go_sem])
        have cL2 : w1.cell? ⟨w.heap.size, 2, none⟩ = some (.int .i64 S) := cell_later hc (by simp [go_sem])
        have zL : w.heap.size < w1.heap.size := by omega
        have cR0 : w1.cell? ⟨w.heap.size + 1, 0, none⟩ = some (.int .i64 0) := cell_later hc (by simp [go_sem])
        have fR0 : w1.frozen? ⟨w.heap.size + 1, 0, none⟩ = false := (hc.frozen (p := ⟨w.heap.size + 1, 0, none⟩) (by first | (simp; done) | (simp; omega))).trans (by simp [go_sem])
        have cR1 : w1.cell? ⟨w.heap.size + 1, 1, none⟩ = some (.slice none 0 0) := cell_later hc (by simp [go_sem])
        have fR1 : w1.frozen? ⟨w.heap.size + 1, 1, none⟩ = false := (hc.frozen (p := ⟨w.heap.size + 1, 1, none⟩) (by first | (simp; done) | (simp; omega))).trans (by simp [go_sem])
        have zR : w.heap.size + 1 < w1.heap.size := by omega
        replace hb := hb.trans (bq.mono hb.size)
        clear hc bq bp hbt
        go_wp2_with fail
        refine Calls.mono (HC.out _ (ha.below hb)) ?_
        rintro e w2 ⟨vc, rfl, hoc, hc⟩
        obtain ⟨av, cap, hv, -, hmc, -⟩ := hoc.rd cellE_len
        subst hv
        have s2 : w1.heap.size ≤ w2.heap.size := hc.size
        have bq := hc
        replace cL0 := cell_later bq cL0
        replace cL1 := cell_later bq cL1
        replace cL2 := cell_later bq cL2
        replace zL := Nat.lt_of_lt_of_le zL bq.size
        replace cR0 := cell_later bq cR0
        replace fR0 := (bq.frozen (p := ⟨w.heap.size + 1, 0, none⟩) zR).trans fR0
        replace cR1 := cell_later bq cR1
        replace fR1 := (bq.frozen (p := ⟨w.heap.size + 1, 1, none⟩) zR).trans fR1
        replace zR := Nat.lt_of_lt_of_le zR bq.size
        replace hb := hb.trans (bq.mono hb.size)
        clear hc bq
        have rc := RowS.of hoc
        go_wp2_with fail
        have bp : ∀ o0, Below w2.heap.size w2 (w2.alloc o0) := fun o0 => (Below.refl _ _).alloc (Nat.le_refl _) o0
        have hbt : ∀ o0, Below w.heap.size w (w2.alloc o0) := fun o0 => hb.trans ((bp o0).mono hb.size)
        refine Calls.mono (HR.out _) ?_
        rintro e w3 ⟨rfl, hc⟩
        have s3 : w2.heap.size + 1 ≤ w3.heap.size := by have := hc.size; simp at this; omega
        have bq : Below w2.heap.size w2 w3 := (bp _).trans (hc.mono (bp _).size)
        replace cL0 := cell_later bq cL0
        replace cL1 := cell_later bq cL1
        replace cL2 := cell_later bq cL2
        replace zL := Nat.lt_of_lt_of_le zL bq.size
        replace cR0 := cell_later bq cR0
        replace fR0 := (bq.frozen (p := ⟨w.heap.size + 1, 0, none⟩) zR).trans fR0
        replace cR1 := cell_later bq cR1
        replace fR1 := (bq.frozen (p := ⟨w.heap.size + 1, 1, none⟩) zR).trans fR1
        replace zR := Nat.lt_of_lt_of_le zR bq.size
        have cN0 : w3.cell? ⟨w2.heap.size, 0, none⟩ = some (.int .i64 0) := cell_later hc (by simp [go_sem])
        have cN1 : w3.cell? ⟨w2.heap.size, 1, none⟩ = some (.slice av m cap) := cell_later hc (by simp [go_sem])
        have zN : w2.heap.size < w3.heap.size := by omega
        replace rc := rc.below bq
        replace hb := hb.trans (bq.mono hb.size)
        clear hc bq bp hbt
        have hp := part_own cellE_len rc F T hle1 hle2
        by_cases hcf : cap = F
        · skip
          rw [if_pos hcf, hcf, Nat.sub_self] at hp
          go_wp2_with (first | ((with_reducible show wpList _ _ _ (({ dst := _, op := .call { callee := .builtin .min, args := #[_, _], argTypes := _ }, type := _, pos := _, after := _, guard := _ } : Oper) :: _) _ _); refine wpList_min2 _ _ _ .i64 (S + M) m _ rfl rfl Q1.out ?_; simp only [Act.put, List.setIfInBounds_toArray, List.set_cons_zero, List.set_cons_succ]) | ((with_reducible show wpList _ _ _ (({ dst := _, op := .call { callee := .builtin .min, args := #[_, _], argTypes := _ }, type := _, pos := _, after := _, guard := _ } : Oper) :: _) _ _); refine wpList_min2 _ _ _ .i64 (F + W) m _ rfl rfl Q3.out ?_; simp only [Act.put, List.setIfInBounds_toArray, List.set_cons_zero, List.set_cons_succ]))
          refine bodyPost_ret (v := .agg #[.int .i64 0, .slice av (T - F) 0]) (by simp [results, Try.results17, go_sem, cR0, cR1]) rfl ⟨_, rfl, ((hp.setB (by omega) _ _).setB (by omega) _ _).mono (by omega) (by simp only [size_set]; omega), (hb.setCell (by simp) _).setCell (by simp) _⟩
        · skip
          rw [if_neg hcf] at hp
          go_wp2_with (first | ((with_reducible show wpList _ _ _ (({ dst := _, op := .call { callee := .builtin .min, args := #[_, _], argTypes := _ }, type := _, pos := _, after := _, guard := _ } : Oper) :: _) _ _); refine wpList_min2 _ _ _ .i64 (S + M) m _ rfl rfl Q1.out ?_; simp only [Act.put, List.setIfInBounds_toArray, List.set_cons_zero, List.set_cons_succ]) | ((with_reducible show wpList _ _ _ (({ dst := _, op := .call { callee := .builtin .min, args := #[_, _], argTypes := _ }, type := _, pos := _, after := _, guard := _ } : Oper) :: _) _ _); refine wpList_min2 _ _ _ .i64 (F + W) m _ rfl rfl Q3.out ?_; simp only [Act.put, List.setIfInBounds_toArray, List.set_cons_zero, List.set_cons_succ]))
          refine bodyPost_ret (v := .agg #[.int .i64 0, .slice (Option.map (fun x => x.add (F * 3)) av) (T - F) (cap - F)]) (by simp [results, Try.results17, go_sem, cR0, cR1]) rfl ⟨_, rfl, ((hp.setB (by omega) _ _).setB (by omega) _ _).mono (by omega) (by simp only [size_set]; omega), (hb.setCell (by simp) _).setCell (by simp) _⟩
      · have e1 : rwC xs W C S R = 3 := by unfold rwC; rw [if_neg (by omega), if_pos (by omega)]
        have e2 : rwRes xs W C S R = [] := by unfold rwRes; rw [if_neg (by omega)]
        rw [e1, e2]
        unfold lnRows at hR hkl
        clear e1 e2 hA e3 e4 hCS
        generalize hk : rwN C W (cellsAll xs).length = k at *
        generalize cellsAll xs = cs at *
        generalize hm : cs.length = m at *
        clear hm hk
        have HC : Hid _ := CO
        have HR : Hid _ := RF
        clear CO RF hL
        by_cases hR0 : R < 0
        · skip
          go_enter Try.func17, Try.ntmps17
          have hb : Below w.heap.size w w := Below.refl _ _
          go_wp2_with fail
          have bp : ∀ o0 o1, Below w.heap.size w ((w.alloc o0).alloc o1) := fun o0 o1 => ((Below.refl _ _).alloc (Nat.le_refl _) o0).alloc (by simp) o1
          have hbt : ∀ o0 o1, Below w.heap.size w ((w.alloc o0).alloc o1) := fun o0 o1 => hb.trans ((bp o0 o1).mono hb.size)
          refine Calls.mono (HL.out _) ?_
          rintro e w1 ⟨rfl, hc⟩
          have s1 : w.heap.size + 2 ≤ w1.heap.size := by have := hc.size; simp at this; omega
          have bq : Below w.heap.size w w1 := (bp _ _).trans (hc.mono (bp _ _).size)
          have cL0 : w1.cell? ⟨w.heap.size, 0, none⟩ = some (.int .i64 W) := cell_later hc (by simp [go_sem])
          have cL1 : w1.cell? ⟨w.heap.size, 1, none⟩ = some (.bool C) := cell_later hc (by simp [go_sem])
          have cL2 : w1.cell? ⟨w.heap.size, 2, none⟩ = some (.int .i64 S) := cell_later hc (by simp [go_sem])
          have zL : w.heap.size < w1.heap.size := by omega
          have cR0 : w1.cell? ⟨w.heap.size + 1, 0, none⟩ = some (.int .i64 0) := cell_later hc (by simp [go_sem])
          have fR0 : w1.frozen? ⟨w.heap.size + 1, 0, none⟩ = false := (hc.frozen (p := ⟨w.heap.size + 1, 0, none⟩) (by first | (simp; done) | (simp; omega))).trans (by simp [go_sem])
          have cR1 : w1.cell? ⟨w.heap.size + 1, 1, none⟩ = some (.slice none 0 0) := cell_later hc (by simp [go_sem])
          have fR1 : w1.frozen? ⟨w.heap.size + 1, 1, none⟩ = false := (hc.frozen (p := ⟨w.heap.size + 1, 1, none⟩) (by first | (simp; done) | (simp; omega))).trans (by simp [go_sem])
          have zR : w.heap.size + 1 < w1.heap.size := by omega
          replace hb := hb.trans (bq.mono hb.size)
          clear hc bq bp hbt
          go_wp2_with fail
          refine Calls.mono (HC.out _ (ha.below hb)) ?_
          rintro e w2 ⟨vc, rfl, hoc, hc⟩
          obtain ⟨av, cap, hv, -, hmc, -⟩ := hoc.rd cellE_len
          subst hv
          have s2 : w1.heap.size ≤ w2.heap.size := hc.size
          have bq := hc
          replace cL0 := cell_later bq cL0
          replace cL1 := cell_later bq cL1
          replace cL2 := cell_later bq cL2
          replace zL := Nat.lt_of_lt_of_le zL bq.size
          replace cR0 := cell_later bq cR0
          replace fR0 := (bq.frozen (p := ⟨w.heap.size + 1, 0, none⟩) zR).trans fR0
          replace cR1 := cell_later bq cR1
          replace fR1 := (bq.frozen (p := ⟨w.heap.size + 1, 1, none⟩) zR).trans fR1
          replace zR := Nat.lt_of_lt_of_le zR bq.size
          replace hb := hb.trans (bq.mono hb.size)
          clear hc bq
          have rc := RowS.of hoc
          go_wp2
          exact bodyPost_ret (v := .agg #[.int .i64 3, .slice none 0 0]) (by simp [results, Try.results17, go_sem, cR0, cR1, zR]) rfl ⟨_, rfl, RowO.nil _ _ _ _ _ _, (((hb.setCell (by first | omega | (simp; omega) | simp) _).setCell (by first | omega | (simp; omega) | simp) _).alloc (by have := hb.size; simp; omega) _)⟩
        · have hR1 : (k : Int) ≤ R := by omega
          clear hR
          go_enter Try.func17, Try.ntmps17
          have hb : Below w.heap.size w w := Below.refl _ _
          go_wp2_with fail
          have bp : ∀ o0 o1, Below w.heap.size w ((w.alloc o0).alloc o1) := fun o0 o1 => ((Below.refl _ _).alloc (Nat.le_refl _) o0).alloc (by simp) o1
          have hbt : ∀ o0 o1, Below w.heap.size w ((w.alloc o0).alloc o1) := fun o0 o1 => hb.trans ((bp o0 o1).mono hb.size)
          refine Calls.mono (HL.out _) ?_
          rintro e w1 ⟨rfl, hc⟩
          have s1 : w.heap.size + 2 ≤ w1.heap.size := by have := hc.size; simp at this; omega
          have bq : Below w.heap.size w w1 := (bp _ _).trans (hc.mono (bp _ _).size)
          have cL0 : w1.cell? ⟨w.heap.size, 0, none⟩ = some (.int .i64 W) := cell_later hc (by simp [go_sem])
          have cL1 : w1.cell? ⟨w.heap.size, 1, none⟩ = some (.bool C) := cell_later hc (by simp [go_sem])
          have cL2 : w1.cell? ⟨w.heap.size, 2, none⟩ = some (.int .i64 S) := cell_later hc (by simp [go_sem])
          have zL : w.heap.size < w1.heap.size := by omega
          have cR0 : w1.cell? ⟨w.heap.size + 1, 0, none⟩ = some (.int .i64 0) := cell_later hc (by simp [go_sem])
          have fR0 : w1.frozen? ⟨w.heap.size + 1, 0, none⟩ = false := (hc.frozen (p := ⟨w.heap.size + 1, 0, none⟩) (by first | (simp; done) | (simp; omega))).trans (by simp [go_sem])
          have cR1 : w1.cell? ⟨w.heap.size + 1, 1, none⟩ = some (.slice none 0 0) := cell_later hc (by simp [go_sem])
          have fR1 : w1.frozen? ⟨w.heap.size + 1, 1, none⟩ = false := (hc.frozen (p := ⟨w.heap.size + 1, 1, none⟩) (by first | (simp; done) | (simp; omega))).trans (by simp [go_sem])
          have zR : w.heap.size + 1 < w1.heap.size := by omega
          replace hb := hb.trans (bq.mono hb.size)
          clear hc bq bp hbt
          go_wp2_with fail
          refine Calls.mono (HC.out _ (ha.below hb)) ?_
          rintro e w2 ⟨vc, rfl, hoc, hc⟩
          obtain ⟨av, cap, hv, -, hmc, -⟩ := hoc.rd cellE_len
          subst hv
          have s2 : w1.heap.size ≤ w2.heap.size := hc.size
          have bq := hc
          replace cL0 := cell_later bq cL0
          replace cL1 := cell_later bq cL1
          replace cL2 := cell_later bq cL2
          replace zL := Nat.lt_of_lt_of_le zL bq.size
          replace cR0 := cell_later bq cR0
          replace fR0 := (bq.frozen (p := ⟨w.heap.size + 1, 0, none⟩) zR).trans fR0
          replace cR1 := cell_later bq cR1
          replace fR1 := (bq.frozen (p := ⟨w.heap.size + 1, 1, none⟩) zR).trans fR1
          replace zR := Nat.lt_of_lt_of_le zR bq.size
          replace hb := hb.trans (bq.mono hb.size)
          clear hc bq
          have rc := RowS.of hoc
          go_wp2_with fail
          have bp : ∀ o0, Below w2.heap.size w2 (w2.alloc o0) := fun o0 => (Below.refl _ _).alloc (Nat.le_refl _) o0
          have hbt : ∀ o0, Below w.heap.size w (w2.alloc o0) := fun o0 => hb.trans ((bp o0).mono hb.size)
          refine Calls.mono (HR.out _) ?_
          rintro e w3 ⟨rfl, hc⟩
          have s3 : w2.heap.size + 1 ≤ w3.heap.size := by have := hc.size; simp at this; omega
          have bq : Below w2.heap.size w2 w3 := (bp _).trans (hc.mono (bp _).size)
          replace cL0 := cell_later bq cL0
          replace cL1 := cell_later bq cL1
          replace cL2 := cell_later bq cL2
          replace zL := Nat.lt_of_lt_of_le zL bq.size
          replace cR0 := cell_later bq cR0
          replace fR0 := (bq.frozen (p := ⟨w.heap.size + 1, 0, none⟩) zR).trans fR0
          replace cR1 := cell_later bq cR1
          replace fR1 := (bq.frozen (p := ⟨w.heap.size + 1, 1, none⟩) zR).trans fR1
          replace zR := Nat.lt_of_lt_of_le zR bq.size
          have cN0 : w3.cell? ⟨w2.heap.size, 0, none⟩ = some (.int .i64 0) := cell_later hc (by simp [go_sem])
          have cN1 : w3.cell? ⟨w2.heap.size, 1, none⟩ = some (.slice av m cap) := cell_later hc (by simp [go_sem])
          have zN : w2.heap.size < w3.heap.size := by omega
          replace rc := rc.below bq
          replace hb := hb.trans (bq.mono hb.size)
          clear hc bq bp hbt
          go_wp2
          exact bodyPost_ret (v := .agg #[.int .i64 3, .slice none 0 0]) (by simp [results, Try.results17, go_sem, cR0, cR1]) rfl ⟨_, rfl, RowO.nil _ _ _ _ _ _, ((hb.setCell (by first | omega | (simp; omega) | simp) _).setCell (by first | omega | (simp; omega) | simp) _)⟩
    · have hA : askF xs W C S = 2 := by unfold askF; rw [if_neg (by omega), if_pos (by omega)]
      have e1 : rwC xs W C S R = 2 := by unfold rwC; rw [if_pos (by omega), hA]
      have e2 : rwRes xs W C S R = [] := by unfold rwRes; rw [if_neg (by omega)]
      have e3 : cellsCode xs = 2 := by unfold cellsCode; rw [if_pos (by omega)]
      have e4 : cellsRes xs = [] := by unfold cellsRes; rw [if_pos (by omega)]
      rw [e1, e2]
      rw [e3, e4] at CO
      have HC : Hid _ := CO
      clear CO e1 e2 e3 e4 hA
      go_enter Try.func17, Try.ntmps17
      have hb : Below w.heap.size w w := Below.refl _ _
      go_wp2_with fail
      have bp : ∀ o0 o1, Below w.heap.size w ((w.alloc o0).alloc o1) := fun o0 o1 => ((Below.refl _ _).alloc (Nat.le_refl _) o0).alloc (by simp) o1
      have hbt : ∀ o0 o1, Below w.heap.size w ((w.alloc o0).alloc o1) := fun o0 o1 => hb.trans ((bp o0 o1).mono hb.size)
      refine Calls.mono (HL.out _) ?_
      rintro e w1 ⟨rfl, hc⟩
      have s1 : w.heap.size + 2 ≤ w1.heap.size := by have := hc.size; simp at this; omega
      have bq : Below w.heap.size w w1 := (bp _ _).trans (hc.mono (bp _ _).size)
      have cL0 : w1.cell? ⟨w.heap.size, 0, none⟩ = some (.int .i64 W) := cell_later hc (by simp [go_sem])
      have cL1 : w1.cell? ⟨w.heap.size, 1, none⟩ = some (.bool C) := cell_later hc (by simp [go_sem])
      have cL2 : w1.cell? ⟨w.heap.size, 2, none⟩ = some (.int .i64 S) := cell_later hc (by simp [go_sem])
      have zL : w.heap.size < w1.heap.size := by omega
      have cR0 : w1.cell? ⟨w.heap.size + 1, 0, none⟩ = some (.int .i64 0) := cell_later hc (by simp [go_sem])
      have fR0 : w1.frozen? ⟨w.heap.size + 1, 0, none⟩ = false := (hc.frozen (p := ⟨w.heap.size + 1, 0, none⟩) (by first | (simp; done) | (simp; omega))).trans (by simp [go_sem])
      have cR1 : w1.cell? ⟨w.heap.size + 1, 1, none⟩ = some (.slice none 0 0) := cell_later hc (by simp [go_sem])
      have fR1 : w1.frozen? ⟨w.heap.size + 1, 1, none⟩ = false := (hc.frozen (p := ⟨w.heap.size + 1, 1, none⟩) (by first | (simp; done) | (simp; omega))).trans (by simp [go_sem])
      have zR : w.heap.size + 1 < w1.heap.size := by omega
      replace hb := hb.trans (bq.mono hb.size)
      clear hc bq bp hbt
      go_wp2_with fail
      refine Calls.mono (HC.out _ (ha.below hb)) ?_
      rintro e w2 ⟨vc, rfl, hoc, hc⟩
      obtain ⟨av, cap, hv, -, hmc, -⟩ := hoc.rd cellE_len
      subst hv
      have s2 : w1.heap.size ≤ w2.heap.size := hc.size
      have bq := hc
      replace cL0 := cell_later bq cL0
      replace cL1 := cell_later bq cL1
      replace cL2 := cell_later bq cL2
      replace zL := Nat.lt_of_lt_of_le zL bq.size
      replace cR0 := cell_later bq cR0
      replace fR0 := (bq.frozen (p := ⟨w.heap.size + 1, 0, none⟩) zR).trans fR0
      replace cR1 := cell_later bq cR1
      replace fR1 := (bq.frozen (p := ⟨w.heap.size + 1, 1, none⟩) zR).trans fR1
      replace zR := Nat.lt_of_lt_of_le zR bq.size
      replace hb := hb.trans (bq.mono hb.size)
      clear hc bq
      have hrow : RowO cellE 3 38 (((w2.setCell ⟨w.heap.size + 1, 0, none⟩ (.int .i64 2)).setCell ⟨w.heap.size + 1, 1, none⟩ (.slice av 0 cap)).alloc (.cells #[.int .i64 2, .slice av 0 cap] 34)) w.heap.size (((w2.setCell ⟨w.heap.size + 1, 0, none⟩ (.int .i64 2)).setCell ⟨w.heap.size + 1, 1, none⟩ (.slice av 0 cap)).alloc (.cells #[.int .i64 2, .slice av 0 cap] 34)).heap.size (.slice av 0 cap) 0 ([] : List C3) := RowO.empty _ _ _ _ _ _ _ _
      go_wp2
      exact bodyPost_ret (v := .agg #[.int .i64 2, .slice av 0 cap]) (by simp [results, Try.results17, go_sem, cR0, cR1, zR]) rfl ⟨_, rfl, hrow, (((hb.setCell (by first | omega | (simp; omega) | simp) _).setCell (by first | omega | (simp; omega) | simp) _).alloc (by have := hb.size; simp; omega) _)⟩
  · have hA : askF xs W C S = lyF W C S := by unfold askF; rw [if_pos hL]
    have e1 : rwC xs W C S R = lyF W C S := by unfold rwC; rw [if_pos (by omega), hA]
    have e2 : rwRes xs W C S R = [] := by unfold rwRes; rw [if_neg (by omega)]
    rw [e1, e2]
    generalize lyF W C S = F at *
    have HL : Hid _ := LF
    clear LF e1 e2 hA
    go_enter Try.func17, Try.ntmps17
    have hb : Below w.heap.size w w := Below.refl _ _
    go_wp2_with fail
    have bp : ∀ o0 o1, Below w.heap.size w ((w.alloc o0).alloc o1) := fun o0 o1 => ((Below.refl _ _).alloc (Nat.le_refl _) o0).alloc (by simp) o1
    have hbt : ∀ o0 o1, Below w.heap.size w ((w.alloc o0).alloc o1) := fun o0 o1 => hb.trans ((bp o0 o1).mono hb.size)
    refine Calls.mono (HL.out _) ?_
    rintro e w1 ⟨rfl, hc⟩
    have s1 : w.heap.size + 2 ≤ w1.heap.size := by have := hc.size; simp at this; omega
    have bq : Below w.heap.size w w1 := (bp _ _).trans (hc.mono (bp _ _).size)
    have cL0 : w1.cell? ⟨w.heap.size, 0, none⟩ = some (.int .i64 W) := cell_later hc (by simp [go_sem])
    have cL1 : w1.cell? ⟨w.heap.size, 1, none⟩ = some (.bool C) := cell_later hc (by simp [go_sem])
    have cL2 : w1.cell? ⟨w.heap.size, 2, none⟩ = some (.int .i64 S) := cell_later hc (by simp [go_sem])
    have zL : w.heap.size < w1.heap.size := by omega
    have cR0 : w1.cell? ⟨w.heap.size + 1, 0, none⟩ = some (.int .i64 0) := cell_later hc (by simp [go_sem])
    have fR0 : w1.frozen? ⟨w.heap.size + 1, 0, none⟩ = false := (hc.frozen (p := ⟨w.heap.size + 1, 0, none⟩) (by first | (simp; done) | (simp; omega))).trans (by simp [go_sem])
    have cR1 : w1.cell? ⟨w.heap.size + 1, 1, none⟩ = some (.slice none 0 0) := cell_later hc (by simp [go_sem])
    have fR1 : w1.frozen? ⟨w.heap.size + 1, 1, none⟩ = false := (hc.frozen (p := ⟨w.heap.size + 1, 1, none⟩) (by first | (simp; done) | (simp; omega))).trans (by simp [go_sem])
    have zR : w.heap.size + 1 < w1.heap.size := by omega
    replace hb := hb.trans (bq.mono hb.size)
    clear hc bq bp hbt
    go_wp2
    exact bodyPost_ret (v := .agg #[.int .i64 F, .slice none 0 0]) (by simp [results, Try.results17, go_sem, cR0, cR1]) rfl ⟨_, rfl, RowO.nil _ _ _ _ _ _, ((hb.setCell (by first | omega | (simp; omega) | simp) _).setCell (by first | omega | (simp; omega) | simp) _)⟩
end Go.Proofs.Ythkgplpdoaebiaa
