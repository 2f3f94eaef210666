/-
  Range2, Range4 in one text.
-/
import Derived.Test.YtckkkhabjfbngaaRangeM
import Derived.Test.YtckkkhabjfbngaaFetch3
import Derived.Test.YtckkkhabjfbngaaCache3
import Derived.Test.YtckkkhabjfbngaaCache5
namespace Go.Proofs.Ytckkkhabjfbngaa
open Go.RowKit Go.ChangeMaps Go.MapKept
set_option linter.unusedVariables false
set_option linter.unusedSimpArgs false

def RgInv (U : Nat) (z : Int) (xs : List Int) (w : World) (lo P0 n : Nat) (R1 : List Int) (R2 : List Bk) (x : Value) (wr : World) : Prop :=
  ∃ (k : Nat) (a1 : Option Addr) (c1 : Nat) (out : List Int) (bs2 : List Bk) (a2 : Option Addr) (c2 : Nat), x = .slice a1 out.length c1 ∧ Own .u8 5 wr (w.heap.size + 2) (.slice a1 out.length c1) out.length out ∧ OkC U z bs2 ∧ RowB 93 5 wr lo wr.heap.size (.slice a2 bs2.length c2) bs2.length bs2 ∧
    Blk wr w.heap.size #[.int .i64 U, .int .i64 z, .slice a2 bs2.length c2] 26 ∧ Blk wr (w.heap.size + 1) #[.int .i64 0, .int .i64 0, .slice none 0 0] 26 ∧ P0 + n < k + (P0 + out.length) ∧ out ++ (rg U z xs (P0 + n) k (P0 + out.length) bs2).1 = R1 ∧ (rg U z xs (P0 + n) k (P0 + out.length) bs2).2 = R2 ∧ Below w.heap.size w wr

set_option maxHeartbeats 3200000 in
set_option maxRecDepth 20000 in
theorem l3Range_any (bf : Nat) (U : Nat) (z : Int) (a : Option Addr) (ca : Nat) (bs : List Bk) (p : Option Addr) (m cp : Nat) (xs : List Int) (P0 n M lo : Nat) (w : World) (hc : w.cell? ⟨bf, 0, none⟩ = some (.slice p m cp)) (ha : RowB 93 5 w lo w.heap.size (.slice a bs.length ca) bs.length bs) (hp : Rd .u8 w p m xs) (hok : OkC U z bs) (hm : m ≤ 400) (hmc : m ≤ cp) (hcm : cp ≤ maxLen) (hP0 : P0 ≤ 400) (hn : n ≤ 400) (hM1 : 1 ≤ M) (hM : M ≤ 400) (hlo : lo ≤ w.heap.size) (R1 : List Int) (R2 : List Bk) (hR : rg U z xs (P0 + n) (n + 1) P0 bs = (R1, R2)) :
    Calls Try.prog 62 #[.agg #[.int .i64 U, .int .i64 z, .slice a bs.length ca], .pointer (some ⟨bf, 0, none⟩), .int .i64 P0, .int .i64 n, .int .i64 M] w fun e w' => ∃ vb va, e = .returned (.tuple #[vb, .agg #[.int .i64 U, .int .i64 z, va]]) ∧
      RowI .u8 5 w' w.heap.size w'.heap.size vb R1.length R1 ∧ RowB 93 5 w' lo w'.heap.size va R2.length R2 ∧ Below w.heap.size w w' := by
  obtain ⟨i0, hi, hz0, hz1, hz2⟩ := info_parts info8
  have hxl : xs.length ≤ 400 := by have := hp.1; omega
  have hu1 : 1 ≤ U := by have := hok.u1; omega
  have hu2 : U ≤ 64 := by have := hok.u2; omega
  have hRl : R1.length ≤ n := by
    have q := (rg_len (E := P0 + n) hu1 (n + 1) P0 bs hok hxl).1
    rw [hR] at q
    simp only at q
    omega
  have HCM := hid hcm
  have HP := hid hp
  have HC := hid hc
  have hU0 : ¬ (U : Int) = 0 := by omega
  have hUn : ¬ U = 0 := by omega
  obtain ⟨W1, hW1⟩ : ∃ W1, W1 = ((w.alloc (Obj.cells #[Value.int .i64 U, Value.int .i64 z, Value.slice a bs.length ca] 26)).alloc (Obj.cells #[Value.int .i64 0, Value.int .i64 0, Value.slice none 0 0] 26)).alloc (Obj.cells #[] 5) := ⟨_, rfl⟩
  have hb1 : Below w.heap.size w W1 := by rw [hW1]; exact (((Below.refl _ _).alloc (Nat.le_refl _) _).alloc (by simp) _).alloc (by simp; omega) _
  have cb1 : Blk W1 w.heap.size #[.int .i64 U, .int .i64 z, .slice a bs.length ca] 26 := by
    rw [hW1]
    exact ((Blk.new w _ _).alloc _).alloc _
  have rb1 : Blk W1 (w.heap.size + 1) #[.int .i64 0, .int .i64 0, .slice none 0 0] 26 := by
    rw [hW1]
    have h := Blk.new (w.alloc (Obj.cells #[Value.int .i64 U, Value.int .i64 z, Value.slice a bs.length ca] 26)) #[.int .i64 0, .int .i64 0, .slice none 0 0] 26
    rw [World.size_alloc] at h
    exact h.alloc _
  have ow1 : Own .u8 5 W1 (w.heap.size + 2) (.slice (some ⟨w.heap.size + 2, 0, none⟩) 0 0) 0 [] := by
    rw [hW1]
    have h := own_empty ((w.alloc (Obj.cells #[Value.int .i64 U, Value.int .i64 z, Value.slice a bs.length ca] 26)).alloc (Obj.cells #[Value.int .i64 0, Value.int .i64 0, Value.slice none 0 0] 26)) (w.heap.size + 2) (by simp)
    rw [World.size_alloc, World.size_alloc] at h
    exact h
  have ra1 := (ha.below hb1).mono (Nat.le_refl _) hb1.size
  have CB1 := hid cb1
  have RB1 := hid rb1
  have OW1 := hid ow1
  have RA1 := hid ra1
  clear hc ha hp hcm cb1 rb1 ow1 ra1
  go_enter Try.func62, Try.ntmps62
  go_wp2
  rw [← hW1]
  clear hW1
  go_loopw [12] (RgInv U z xs w lo P0 n R1 R2) (fun x _ => n - lenOf x)
  case atStart =>
    exact ⟨n + 1, some ⟨w.heap.size + 2, 0, none⟩, 0, [], bs, a, ca, rfl, OW1.out, hok, RA1.out, CB1.out, RB1.out, by simp; omega, by simp only [List.nil_append, List.length_nil, Nat.add_zero]; rw [hR], by simp only [List.length_nil, Nat.add_zero]; rw [hR], hb1⟩
  case round =>
    obtain ⟨k, a1, c1, out, bs2, a2, c2, rfl, hown, hok2, hrow, hcb, hrb, hk, hr1, hr2, hbw⟩ := hrel
    have hol : out.length ≤ 400 := by
      have := congrArg List.length hr1
      rw [List.length_append] at this
      omega
    by_cases hlt : out.length < n
    · have hlt' : (out.length : Int) < (n : Int) := by omega
      obtain ⟨P, hP⟩ : ∃ P, P = P0 + out.length := ⟨_, rfl⟩
      have hPI : (P0 : Int) + (out.length : Int) = (P : Int) := by omega
      rw [← hP] at hk hr1 hr2
      have hPF : P < P0 + n := by omega
      have hq := okC_ft hok2 hxl (P / U)
      have hYl := ftB_len hok2 xs (P / U)
      have hrl := fun hY => rg_last (z := z) (k := k) hPF hk (Y := ftB U bs2 xs (P / U)) rfl rfl hY
      have hrm := fun hY t ht => rg_take (z := z) (k := k) hPF hk (Y := ftB U bs2 xs (P / U)) rfl rfl hY hu1 t ht
      have hwN := div_is P U (by omega) hu1
      have hwM := mod_is P U (by omega)
      have hwD := divE_is P U (by omega) hu1
      have hwE : (P : Int) % (U : Int) = ((P % U : Nat) : Int) := rfl
      have hNb := Nat.div_le_self P U
      have hMb := Nat.mod_lt P (show U > 0 by omega)
      have hbd : ((bs2.length : Int)) + byB bs2 ≤ 1048576 := by
        have h1 := okC_byB hok2
        have h2 := hok2.len
        have h3 := hok2.z2
        omega
      obtain ⟨W, hW⟩ : ∃ W, W = wr.alloc (Obj.cells #[] 5) := ⟨_, rfl⟩
      have hbW : Below wr.heap.size wr W := by rw [hW]; exact (Below.refl _ _).alloc (Nat.le_refl _) _
      have hzW : W.heap.size = wr.heap.size + 1 := by rw [hW]; simp
      have hcbW : Blk W w.heap.size #[.int .i64 U, .int .i64 z, .slice a2 bs2.length c2] 26 := (hbW.block _ hcb.lt).trans hcb
      have hrbW : Blk W (w.heap.size + 1) #[.int .i64 0, .int .i64 0, .slice none 0 0] 26 := (hbW.block _ hrb.lt).trans hrb
      have hb0W := hbw.trans (hbW.mono hbw.size)
      have x0 := hcbW.cell 0
      have x1 := hcbW.cell 1
      have x2 := hcbW.cell 2
      simp at x0 x1 x2
      have CT := hid (l3Fetch_any bf (U : Int) z a2 bs2.length c2 bs2 p m cp xs U (P / U) M W.drew (show W.cell? _ = _ from cell_later hb0W HC.out) (show RdB W _ _ _ from hrow.read.below hbW) (show Rd .u8 W p m xs from HP.out.below hb0W) hok2 rfl hbd (by omega) hmc HCM.out (by omega) hM1 hM)
      have HOW : Hid (RowI .u8 5 W (w.heap.size + 2) wr.heap.size (.slice a1 out.length c1) out.length out) := hid ((RowI.of hown).below hbW)
      generalize ftB U bs2 xs (P / U) = Y at hq hYl hrl hrm CT
      generalize ftQ z bs2 ((P / U : Nat) : Int) Y = Q at hq hrl hrm CT
      generalize P / U = N at hwN hwD hNb CT
      generalize P % U = J at hwM hwE hMb hrl hrm
      have HRL := hid hrl
      have HRM := hid hrm
      have HR1 := hid hr1
      have HR2 := hid hr2
      have HOK := hid hq
      have CBW := hid hcbW
      have RBW := hid hrbW
      have HBW := hid hb0W
      have HP := hid hP
      have hzr := hrb.lt
      clear hrl hrm hown hr1 hr2 hq hok2 hcbW hrbW hb0W hrow hcb hrb hbw hP hbW
      go_wp2_with fail
      rw [← hW]
      clear hW
      refine wp_region_held_drew (S := fun w' => w'.cell? ⟨w.heap.size, 0, none⟩ = some (.int .i64 U) ∧ w'.cell? ⟨w.heap.size, 1, none⟩ = some (.int .i64 z) ∧ ∃ s, w'.cell? ⟨w.heap.size, 2, none⟩ = some s) (by kernel_rfl) (by exact ⟨x0, x1, ⟨_, x2⟩⟩) (fun hS => ?_)
      refine wpAnyH_take (i := 1) (v := (.pointer (some ⟨bf, 0, none⟩))) rfl (by as_aux_lemma => kernel_rfl) (by as_aux_lemma => kernel_rfl) (by as_aux_lemma => kernel_rfl) (fun _ _ _ h => h) (Or.inl ⟨by kernel_rfl, ?_⟩) hS ?_
      · intro w hSw; (try dsimp only at hSw); go_simp; try first | rw [if_neg hUn, hwD] | rw [hwD] | exact hwD
      simp only [Act.put, List.getElem_toArray, List.getElem_cons_zero, List.getElem_cons_succ, List.setIfInBounds_toArray, List.set_cons_zero, List.set_cons_succ]
      refine wpAnyH_take (i := 2) (v := (.int .i64 (P : Int))) rfl (by as_aux_lemma => kernel_rfl) (by as_aux_lemma => kernel_rfl) (by as_aux_lemma => kernel_rfl) (fun _ _ _ h => h) (Or.inl ⟨by kernel_rfl, ?_⟩) hS ?_
      · intro w hSw; (try dsimp only at hSw); go_simp; try first | rw [if_neg hUn, hwD] | rw [hwD] | exact hwD
      simp only [Act.put, List.getElem_toArray, List.getElem_cons_zero, List.getElem_cons_succ, List.setIfInBounds_toArray, List.set_cons_zero, List.set_cons_succ]
      refine wpAnyH_take (i := 3) (v := (.pointer (some ⟨w.heap.size, 0, none⟩))) rfl (by as_aux_lemma => kernel_rfl) (by as_aux_lemma => kernel_rfl) (by as_aux_lemma => kernel_rfl) (fun _ _ _ h => h) (Or.inl ⟨by kernel_rfl, ?_⟩) hS ?_
      · intro w hSw; (try dsimp only at hSw); go_simp; try first | rw [if_neg hUn, hwD] | rw [hwD] | exact hwD
      simp only [Act.put, List.getElem_toArray, List.getElem_cons_zero, List.getElem_cons_succ, List.setIfInBounds_toArray, List.set_cons_zero, List.set_cons_succ]
      refine wpAnyH_take (i := 4) (v := (.int .i64 (U : Int))) rfl (by as_aux_lemma => kernel_rfl) (by as_aux_lemma => kernel_rfl) (by as_aux_lemma => kernel_rfl) (fun _ _ _ h => h) (Or.inl ⟨by kernel_rfl, ?_⟩) hS ?_
      · intro w hSw; (try dsimp only at hSw); go_simp; try first | rw [if_neg hUn, hwD] | rw [hwD] | exact hwD
      simp only [Act.put, List.getElem_toArray, List.getElem_cons_zero, List.getElem_cons_succ, List.setIfInBounds_toArray, List.set_cons_zero, List.set_cons_succ]
      refine wpAnyH_take (i := 5) (v := (.int .i64 (N : Int))) rfl (by as_aux_lemma => kernel_rfl) (by as_aux_lemma => kernel_rfl) (by as_aux_lemma => kernel_rfl) (fun _ _ _ h => h) (Or.inl ⟨by kernel_rfl, ?_⟩) hS ?_
      · intro w hSw; (try dsimp only at hSw); go_simp; try first | rw [if_neg hUn, hwD] | rw [hwD] | exact hwD
      simp only [Act.put, List.getElem_toArray, List.getElem_cons_zero, List.getElem_cons_succ, List.setIfInBounds_toArray, List.set_cons_zero, List.set_cons_succ]
      refine wpAnyH_take (i := 6) (v := (.int .i64 (M : Int))) rfl (by as_aux_lemma => kernel_rfl) (by as_aux_lemma => kernel_rfl) (by as_aux_lemma => kernel_rfl) (fun _ _ _ h => h) (Or.inl ⟨by kernel_rfl, ?_⟩) hS ?_
      · intro w hSw; (try dsimp only at hSw); go_simp; try first | rw [if_neg hUn, hwD] | rw [hwD] | exact hwD
      simp only [Act.put, List.getElem_toArray, List.getElem_cons_zero, List.getElem_cons_succ, List.setIfInBounds_toArray, List.set_cons_zero, List.set_cons_succ]
      refine wpAnyH_ready (rs := [0]) (by as_aux_lemma => kernel_rfl) (by simp) ?_
      refine AllReadyH.cons rfl (fun K hK => ?_) AllReadyH.nil
      go_simp
      refine hK.out _ _ hS (fun hS => ?_)
      clear hK K
      (try simp only [Act.put, List.getElem_toArray, List.getElem_cons_zero, List.getElem_cons_succ, List.setIfInBounds_toArray, List.set_cons_zero, List.set_cons_succ])
      refine wpAnyH_ready (rs := [7]) (by as_aux_lemma => kernel_rfl) (by simp) ?_
      refine AllReadyH.cons rfl (fun K hK => ?_) AllReadyH.nil
      go_simp
      refine Calls.mono CT.out ?_
      rintro e5 w5 ⟨v5, v6, rfl, hy5, hr5, hb5⟩
      obtain ⟨ya, yc, rfl, -, -⟩ := hy5.shape
      obtain ⟨qa, qc, rfl, -, -⟩ := hr5.shape
      have cb5 : Blk w5 w.heap.size #[.int .i64 U, .int .i64 z, .slice a2 bs2.length c2] 26 := (hb5.block _ (by exact Blk.lt CBW.out)).trans (by exact CBW.out)
      have k0 := cb5.cell 0
      have k1 := cb5.cell 1
      have k2 := cb5.cell 2
      have kf0 := cb5.frozen 0
      have kf1 := cb5.frozen 1
      have kf2 := cb5.frozen 2
      simp at k0 k1 k2
      refine hK.out _ _ ⟨k0, k1, ⟨_, k2⟩⟩ (fun hS => ?_)
      clear hK K
      (try simp only [Act.put, List.getElem_toArray, List.getElem_cons_zero, List.getElem_cons_succ, List.setIfInBounds_toArray, List.set_cons_zero, List.set_cons_succ])
      refine wpAnyH_take (i := 8) (v := (.tuple #[.slice ya Y.length yc, .agg #[.int .i64 U, .int .i64 z, .slice qa Q.length qc]])) rfl (by as_aux_lemma => kernel_rfl) (by as_aux_lemma => kernel_rfl) (by as_aux_lemma => kernel_rfl) (fun _ _ _ h => h) (Or.inl ⟨by kernel_rfl, ?_⟩) hS ?_
      · intro w hSw; (try dsimp only at hSw); go_simp; try first | rw [if_neg hUn, hwD] | rw [hwD] | exact hwD
      simp only [Act.put, List.getElem_toArray, List.getElem_cons_zero, List.getElem_cons_succ, List.setIfInBounds_toArray, List.set_cons_zero, List.set_cons_succ]
      refine wpAnyH_take (i := 9) (v := (.slice ya Y.length yc)) rfl (by as_aux_lemma => kernel_rfl) (by as_aux_lemma => kernel_rfl) (by as_aux_lemma => kernel_rfl) (fun _ _ _ h => h) (Or.inl ⟨by kernel_rfl, ?_⟩) hS ?_
      · intro w hSw; (try dsimp only at hSw); go_simp; try first | rw [if_neg hUn, hwD] | rw [hwD] | exact hwD
      simp only [Act.put, List.getElem_toArray, List.getElem_cons_zero, List.getElem_cons_succ, List.setIfInBounds_toArray, List.set_cons_zero, List.set_cons_succ]
      refine wpAnyH_take (i := 10) (v := (.agg #[.int .i64 U, .int .i64 z, .slice qa Q.length qc])) rfl (by as_aux_lemma => kernel_rfl) (by as_aux_lemma => kernel_rfl) (by as_aux_lemma => kernel_rfl) (fun _ _ _ h => h) (Or.inl ⟨by kernel_rfl, ?_⟩) hS ?_
      · intro w hSw; (try dsimp only at hSw); go_simp; try first | rw [if_neg hUn, hwD] | rw [hwD] | exact hwD
      simp only [Act.put, List.getElem_toArray, List.getElem_cons_zero, List.getElem_cons_succ, List.setIfInBounds_toArray, List.set_cons_zero, List.set_cons_succ]
      refine wpAnyH_take (i := 11) (v := (.slice ya Y.length yc)) rfl (by as_aux_lemma => kernel_rfl) (by as_aux_lemma => kernel_rfl) (by as_aux_lemma => kernel_rfl) (fun _ _ _ h => h) (Or.inl ⟨by kernel_rfl, ?_⟩) hS ?_
      · intro w hSw; (try dsimp only at hSw); go_simp; try first | rw [if_neg hUn, hwD] | rw [hwD] | exact hwD
      simp only [Act.put, List.getElem_toArray, List.getElem_cons_zero, List.getElem_cons_succ, List.setIfInBounds_toArray, List.set_cons_zero, List.set_cons_succ]
      refine wpAnyH_ready (rs := [12]) (by as_aux_lemma => kernel_rfl) (by simp) ?_
      refine AllReadyH.cons rfl (fun K hK => ?_) AllReadyH.nil
      go_simp
      have cb6 := ((cb5.set (i := 0) (.int .i64 U)).set (i := 1) (.int .i64 z)).set (i := 2) (.slice qa Q.length qc)
      refine hK.out _ _ ⟨by simpa using cb6.cell 0, by simpa using cb6.cell 1, ⟨_, by simpa using cb6.cell 2⟩⟩ (fun hS => ?_)
      clear hK K
      (try simp only [Act.put, List.getElem_toArray, List.getElem_cons_zero, List.getElem_cons_succ, List.setIfInBounds_toArray, List.set_cons_zero, List.set_cons_succ])
      refine wpAnyH_done (by kernel_rfl) ?_ _
      clear hS
      have hb6 : Below W.heap.size W w5 := ⟨hb5.os, hb5.tape, hb5.output, hb5.size, hb5.block⟩
      have hg6 : w5.grownBy (((w5.setCell ⟨w.heap.size, 0, none⟩ (.int .i64 U)).setCell ⟨w.heap.size, 1, none⟩ (.int .i64 z)).setCell ⟨w.heap.size, 2, none⟩ (.slice qa Q.length qc)) (some w.heap.size) := grownT (grownT (set_grown _ _ _ _) (set_grown _ _ _ _)) (set_grown _ _ _ _)
      simp at cb6
      have hz5 : W.heap.size ≤ w5.heap.size := hb6.size
      have hr6 := RowB.apart hr5 cb5 (by decide) (by decide) hg6
      have hy6 := RowI.chg hy5 (Chg.one hg6) (.inr (by show w.heap.size + 1 ≤ W.heap.size; omega))
      have ho6 := RowI.chg (RowI.below HOW.out hb6) (Chg.one hg6) (.inr (by omega))
      have rb6 := Blk.kept ((hb6.block _ (Blk.lt RBW.out)).trans RBW.out) hg6 (by simp)
      have b6 := below_chg (HBW.out.trans (hb6.mono (by have := HBW.out.size; omega))) (Chg.one hg6) (by omega) (by omega)
      have hz6 : w5.heap.size ≤ (((w5.setCell ⟨w.heap.size, 0, none⟩ (.int .i64 U)).setCell ⟨w.heap.size, 1, none⟩ (.int .i64 z)).setCell ⟨w.heap.size, 2, none⟩ (.slice qa Q.length qc)).heap.size := hg6.size
      have hrz : W.drew.heap.size = wr.heap.size + 1 := hzW
      rw [hrz] at hr6 hy6
      clear hg6 cb5 k0 k1 k2 kf0 kf1 kf2 hr5 hy5 hb5 hb6 CT x0 x1 x2 HOW RBW HBW CBW
      generalize ((w5.setCell ⟨w.heap.size, 0, none⟩ (.int .i64 U)).setCell ⟨w.heap.size, 1, none⟩ (.int .i64 z)).setCell ⟨w.heap.size, 2, none⟩ (.slice qa Q.length qc) = w6 at *
      have x0 := cb6.cell 0
      have x1 := cb6.cell 1
      have x2 := cb6.cell 2
      simp at x0 x1 x2
      have HR6 := hid hr6
      have HY6 := hid hy6
      have HO6 := hid ho6
      have CB6 := hid (show Blk _ _ _ _ from cb6)
      have RB6 := hid (show Blk _ _ _ _ from rb6)
      have B6 := hid b6
      clear hr6 hy6 ho6 cb6 rb6 b6
      have hP1k : P ≤ 1000 := by omega
      have HKK := hid hk
      clear hwN hwM hwD hxl hk hok hR hNb hRl
      by_cases hJ : Y.length ≤ J
      · have hJ' : (Y.length : Int) ≤ (J : Int) := by omega
        have hfin := HRL.out (by omega)
        have hpt : (Y.drop J).take (P0 + n - P) = [] := by rw [List.drop_eq_nil_of_le hJ]; simp
        rw [hpt] at hfin
        have E1 := hid (show out = R1 by rw [← HR1.out, hfin]; simp)
        have E2 := hid (show Q = R2 by rw [← HR2.out, hfin])
        clear hfin hpt
        have rbG := RB6.out
        have d0 := rbG.cell 0
        have d1 := rbG.cell 1
        have d2 := rbG.cell 2
        have df0 := rbG.frozen 0
        have df1 := rbG.frozen 1
        have df2 := rbG.frozen 2
        simp at d0 d1 d2
        have hgs : ∀ x y q, w6.grownBy (((w6.setCell ⟨w.heap.size + 1, 0, none⟩ x).setCell ⟨w.heap.size + 1, 1, none⟩ y).setCell ⟨w.heap.size + 1, 2, none⟩ q) (some (w.heap.size + 1)) := fun x y q => grownT (grownT (set_grown _ _ _ _) (set_grown _ _ _ _)) (set_grown _ _ _ _)
        have HGS := hid hgs
        have hbG := B6.out
        have hGz : w.heap.size ≤ w6.heap.size := hbG.size
        clear rbG hgs
        go_wp2
        go_region
        go_wp2
        refine bodyPost_ret (v := .tuple #[.slice a1 out.length c1, .agg #[.int .i64 U, .int .i64 z, .slice qa Q.length qc]]) (by simp [results, Try.results62, go_sem, d0, d1, d2]) rfl ⟨.slice a1 out.length c1, .slice qa Q.length qc, rfl, ?_, ?_, ?_⟩
        · have hq := RowI.below (RowI.chg HO6.out (Chg.one (HGS.out (.int .i64 U) (.int .i64 z) (.slice qa Q.length qc))) (.inr (by omega))) ((Below.refl _ _).drew)
          rw [← E1.out]
          exact hq.mono (by omega) (by simp [World.setCell]; try omega)
        · have hq := RowB.below (RowB.apart HR6.out RB6.out (by decide) (by decide) (HGS.out (.int .i64 U) (.int .i64 z) (.slice qa Q.length qc))) ((Below.refl _ _).drew)
          rw [← E2.out]
          exact hq.mono (by omega) (by simp [World.setCell]; try omega)
        · exact (((hbG.setCell (by simp) _).setCell (by simp) _).setCell (by simp) _).drew
      · have hJ' : ¬ (Y.length : Int) ≤ (J : Int) := by omega
        obtain ⟨L, hL⟩ : ∃ L, L = min (P0 + n - P) (Y.length - J) := ⟨_, rfl⟩
        have E5 := hid (show min ((n : Int) - (out.length : Int)) ((Y.length : Int) - (J : Int)) = (L : Int) by have := HP.out; omega)
        have hL64 : L ≤ 64 := by omega
        have hL1 : 1 ≤ L := by omega
        have hJL : J + L ≤ Y.length := by omega
        obtain ⟨pt, hpt⟩ : ∃ pt, pt = (Y.drop J).take L := ⟨_, rfl⟩
        have hptl : pt.length = L := by rw [hpt]; simp; omega
        have hpte : (Y.drop J).take (P0 + n - P) = pt := by
          rw [hpt]
          by_cases q : P0 + n - P ≤ Y.length - J
          · rw [show L = P0 + n - P by omega]
          · rw [List.take_of_length_le (by rw [List.length_drop]; omega), List.take_of_length_le (by rw [List.length_drop]; omega)]
        rw [hpte] at HRL
        have HRM' := hid (fun h ht => HRM.out h L ht)
        rw [← hpt] at HRM'
        have hyc := (RowI.shape HY6.out)
        obtain ⟨ya', yc', hyv, hyc1, -⟩ := hyc
        simp only [Value.slice.injEq] at hyv
        obtain ⟨-, -, hyv⟩ := hyv
        rw [← hyv] at hyc1
        have hycJ : ¬ yc = J := by omega
        have hycL : J + L ≤ yc := by omega
        have HRP : Hid (∀ b, (0 < L → ∀ g off, ya = some ⟨g, off, none⟩ → b = some ⟨g, off + J, none⟩) → Rd .u8 w6 b (J + L - J) pt) := hid (fun b hb => by
          rw [Nat.add_sub_cancel_left, hpt]
          exact (RowI.read HY6.out).cut J L hJL b hb)
        have HPTL := hid hptl
        have hoL : out.length + L ≤ 464 := by omega
        have lo6 : ∀ j, (Value.slice a1 out.length c1).ownBlock = some j → w.heap.size + 2 ≤ j ∧ j < wr.heap.size := fun j hj => ⟨(Own.lt HO6.out.1 j hj).1, HO6.out.2 j hj⟩
        have LO6 := hid lo6
        have hw6 : w.heap.size + 2 ≤ w6.heap.size := by omega
        have HLM := hid hL
        clear hpte hyv hptl lo6 hpt hL
        go_wp2_with fail
        refine (l1Min_any _ _ _).mono ?_
        rw [E5.out]
        rintro e w6' ⟨rfl, hw6e⟩
        subst w6'
        go_wp2_with (at_builtin; ((refine wpList_append_rd rfl _ _ 22 rfl .u8 (w.heap.size + 2) 5 i0 1 Try.underlying22 hi hz0 hz1 hz2 _ out.length _ rfl HO6.out.1 _ (J + L - J) _ pt rfl ?_ (by unfold maxLen; omega) (by omega) (by omega) ?_); (exact HRP.out _ (fun h0 g off hg => by first | omega | (subst hg; simp [Addr.add_lit])))))
        intro v7 w7 ho7 hg7
        have ho7' : Own .u8 5 w7 (w.heap.size + 2) v7 (out ++ pt).length (out ++ pt) := by have q := ho7.len; rw [q]; exact ho7
        obtain ⟨a7, c7, rfl, -⟩ := ho7'.rdc
        have hneq : ∀ B, B < w.heap.size + 2 → some B ≠ (Value.slice a1 out.length c1).ownBlock := fun B hB q => by have := (LO6.out B q.symm).1; omega
        have hC7 : Chg (w.heap.size + 2) wr.heap.size w6 w7 := Chg.of_grown hg7 LO6.out
        have hr7 := RowB.chg HR6.out hC7 (.inr (by omega))
        have cb7 := Blk.kept CB6.out hg7 (hneq _ (by omega))
        have rb7 := Blk.kept RB6.out hg7 (hneq _ (by omega))
        have b7 := below_chg B6.out hC7 (by omega) (by have := B6.out.size; omega)
        have hz7 : w6.heap.size ≤ w7.heap.size := hg7.size
        have hr7 := hr7.mono (lo' := wr.heap.size + 1) (hi' := w7.heap.size) (Nat.le_refl _) (by omega)
        clear ho7 hg7 hC7 hneq x0 x1 x2 HO6 HR6 HY6 CB6 RB6 B6 HRP LO6
        have x0 := cb7.cell 0
        have x1 := cb7.cell 1
        have x2 := cb7.cell 2
        simp at x0 x1 x2
        have HO6 := hid (RowI.of ho7')
        have HR6 := hid hr7
        have CB6 := hid (show Blk _ _ _ _ from cb7)
        have RB6 := hid (show Blk _ _ _ _ from rb7)
        have B6 := hid b7
        clear ho7' hr7 cb7 rb7 b7
        by_cases hsm : Y.length < U
        · have hsm' : (Y.length : Int) < (U : Int) := by omega
          have hfin := HRL.out hsm
          have E1 := hid (show out ++ pt = R1 by rw [← HR1.out, hfin])
          have E2 := hid (show Q = R2 by rw [← HR2.out, hfin])
          clear hfin
          have rbG := RB6.out
          have d0 := rbG.cell 0
          have d1 := rbG.cell 1
          have d2 := rbG.cell 2
          have df0 := rbG.frozen 0
          have df1 := rbG.frozen 1
          have df2 := rbG.frozen 2
          simp at d0 d1 d2
          have hgs : ∀ x y q, w7.grownBy (((w7.setCell ⟨w.heap.size + 1, 0, none⟩ x).setCell ⟨w.heap.size + 1, 1, none⟩ y).setCell ⟨w.heap.size + 1, 2, none⟩ q) (some (w.heap.size + 1)) := fun x y q => grownT (grownT (set_grown _ _ _ _) (set_grown _ _ _ _)) (set_grown _ _ _ _)
          have HGS := hid hgs
          have hbG := B6.out
          have hGz : w.heap.size ≤ w7.heap.size := hbG.size
          clear rbG hgs
          go_wp2
          go_region
          go_wp2
          refine bodyPost_ret (v := .tuple #[.slice a7 (out ++ pt).length c7, .agg #[.int .i64 U, .int .i64 z, .slice qa Q.length qc]]) (by simp [results, Try.results62, go_sem, d0, d1, d2]) rfl ⟨.slice a7 (out ++ pt).length c7, .slice qa Q.length qc, rfl, ?_, ?_, ?_⟩
          · have hq := RowI.below (RowI.chg HO6.out (Chg.one (HGS.out (.int .i64 U) (.int .i64 z) (.slice qa Q.length qc))) (.inr (by omega))) ((Below.refl _ _).drew)
            rw [← E1.out]
            exact hq.mono (by omega) (by simp [World.setCell]; try omega)
          · have hq := RowB.below (RowB.apart HR6.out RB6.out (by decide) (by decide) (HGS.out (.int .i64 U) (.int .i64 z) (.slice qa Q.length qc))) ((Below.refl _ _).drew)
            rw [← E2.out]
            exact hq.mono (by omega) (by simp [World.setCell]; try omega)
          · exact (((hbG.setCell (by simp) _).setCell (by simp) _).setCell (by simp) _).drew
        · have hsm' : ¬ (Y.length : Int) < (U : Int) := by omega
          obtain ⟨k', hk', hgo⟩ := HRM'.out (by omega) (by have := HLM.out; omega)
          have eP : P + L = P0 + (out ++ pt).length := by rw [List.length_append, HPTL.out]; have := HP.out; omega
          rw [eP] at hk' hgo
          have H1 := hid (show (out ++ pt) ++ (rg U z xs (P0 + n) k' (P0 + (out ++ pt).length) Q).1 = R1 by rw [← HR1.out, hgo, List.append_assoc])
          have H2 := hid (show (rg U z xs (P0 + n) k' (P0 + (out ++ pt).length) Q).2 = R2 by rw [← HR2.out, hgo])
          have H3 := hid hk'
          clear hk' hgo HRL HRM HRM' HR1 HR2
          go_wp2
          go_roundw
          case rel => exact ⟨k', a7, c7, out ++ pt, Q, qa, qc, rfl, HO6.out.1, HOK.out, HR6.out.mono (by omega) (Nat.le_refl _), CB6.out, RB6.out, H3.out, H1.out, H2.out, B6.out⟩
          case measure => simp [lenOf]; have := HPTL.out; omega
    · have hlt' : ¬ (out.length : Int) < (n : Int) := by omega
      rw [rg_end (by omega)] at hr1 hr2
      have E1 := hid (show out = R1 by rw [← hr1]; simp)
      have E2 := hid hr2
      have HO6 := hid (RowI.of hown)
      have HR6 := hid hrow
      have CB6 := hid hcb
      have RB6 := hid hrb
      have B6 := hid hbw
      clear hr1 hr2 hown hrow hcb hrb hbw hok hok2 hR
      have rbG := RB6.out
      have d0 := rbG.cell 0
      have d1 := rbG.cell 1
      have d2 := rbG.cell 2
      have df0 := rbG.frozen 0
      have df1 := rbG.frozen 1
      have df2 := rbG.frozen 2
      have x0 := CB6.out.cell 0
      have x1 := CB6.out.cell 1
      have x2 := CB6.out.cell 2
      simp at d0 d1 d2 x0 x1 x2
      have hgs : ∀ x y q, wr.grownBy (((wr.setCell ⟨w.heap.size + 1, 0, none⟩ x).setCell ⟨w.heap.size + 1, 1, none⟩ y).setCell ⟨w.heap.size + 1, 2, none⟩ q) (some (w.heap.size + 1)) := fun x y q => grownT (grownT (set_grown _ _ _ _) (set_grown _ _ _ _)) (set_grown _ _ _ _)
      have HGS := hid hgs
      have hbG := B6.out
      have hGz : w.heap.size ≤ wr.heap.size := hbG.size
      clear rbG hgs
      go_wp2
      go_region
      go_wp2
      refine bodyPost_ret (v := .tuple #[.slice a1 out.length c1, .agg #[.int .i64 U, .int .i64 z, .slice a2 bs2.length c2]]) (by simp [results, Try.results62, go_sem, d0, d1, d2]) rfl ⟨.slice a1 out.length c1, .slice a2 bs2.length c2, rfl, ?_, ?_, ?_⟩
      · have hq := RowI.below (RowI.chg HO6.out (Chg.one (HGS.out (.int .i64 U) (.int .i64 z) (.slice a2 bs2.length c2))) (.inr (by omega))) ((Below.refl _ _).drew)
        rw [← E1.out]
        exact hq.mono (by omega) (by simp [World.setCell])
      · have hq := RowB.below (RowB.apart HR6.out RB6.out (by decide) (by decide) (HGS.out (.int .i64 U) (.int .i64 z) (.slice a2 bs2.length c2))) ((Below.refl _ _).drew)
        rw [← E2.out]
        exact hq.mono (by omega) (by simp [World.setCell])
      · exact (((hbG.setCell (by simp) _).setCell (by simp) _).setCell (by simp) _).drew
end Go.Proofs.Ytckkkhabjfbngaa

namespace Go.Proofs.Ytckkkhabjfbngaa
open Go.RowKit Go.ChangeMaps Go.MapKept
set_option linter.unusedVariables false
set_option linter.unusedSimpArgs false

set_option maxHeartbeats 3200000 in
set_option maxRecDepth 20000 in
theorem specReadRange_any (u z : Int) (a : Option Addr) (l ca : Nat) (bs : List Bk) (p : Option Addr) (m cp : Nat) (xs : List Int) (at_ n M : Int) (w : World) (ha : RdB w a l bs) (hp : Rd .u8 w p m xs) (h1 : (l : Int) + byB bs ≤ 1048576) (hm : m ≤ 1048576) (hmc : m ≤ cp) (hcm : cp ≤ maxLen) :
    Calls Try.prog 21 #[.agg #[.int .i64 u, .int .i64 z, .slice a l ca], .agg #[.slice p m cp], .int .i64 at_, .int .i64 n, .int .i64 M] w fun e w' => ∃ vb va, e = .returned (.agg #[.int .i64 (rrCode u z bs xs at_ n M), vb, .int .i64 (rrU u z bs xs at_ n M), .int .i64 (rrZ u z bs xs at_ n M), va]) ∧
      RowI .u8 5 w' w.heap.size w'.heap.size vb (rrR u z bs xs at_ n M).length (rrR u z bs xs at_ n M) ∧ RowB 93 5 w' w.heap.size w'.heap.size va (rrS u z bs xs at_ n M).length (rrS u z bs xs at_ n M) ∧ Below w.heap.size w w' := by
  have B3 : ∀ o1 o2 o3, Below w.heap.size w (((w.alloc o1).alloc o2).alloc o3) := fun o1 o2 o3 => (((Below.refl _ _).alloc (Nat.le_refl _) o1).alloc (by simp) o2).alloc (by simp; omega) o3
  have hxl := hp.1
  have CF : Hid _ := fun w' c0 c1 c2 cf ha' => l3Asked_any w.heap.size (w.heap.size + 1) u z a l ca bs p m cp w' c0 c1 c2 cf ha' (by omega) (by omega)
  have HA : Hid (RdB w a l bs) := ha
  have HP : Hid (Rd .u8 w p m xs) := hp
  have HCM := hid hcm
  obtain ⟨F, hF⟩ : ∃ F, F = asked u z bs m := ⟨_, rfl⟩
  rw [← hF] at CF
  rw [← hxl] at hF
  have HF : Hid (F = asked u z bs xs.length) := hF
  clear ha hF hp hcm
  go_enter Try.func21, Try.ntmps21
  go_wp2_with fail
  refine Calls.mono (CF.out _ (by simp [go_sem]) (by simp [go_sem]) (by simp [go_sem]) (by simp [go_sem]) (HA.out.below (B3 _ _ _))) ?_
  rintro e w2 ⟨rfl, hb2⟩
  have hb := (B3 _ _ _).trans (hb2.mono (by simp; omega))
  have q0 : w2.cell? ⟨w.heap.size, 0, none⟩ = some (.int .i64 u) := cell_later hb2 (by simp [go_sem])
  have q1 : w2.cell? ⟨w.heap.size, 1, none⟩ = some (.int .i64 z) := cell_later hb2 (by simp [go_sem])
  have q2 : w2.cell? ⟨w.heap.size, 2, none⟩ = some (.slice a l ca) := cell_later hb2 (by simp [go_sem])
  have qf : w2.cell? ⟨w.heap.size + 1, 0, none⟩ = some (.slice p m cp) := cell_later hb2 (by simp [go_sem])
  have rb : Blk w2 (w.heap.size + 2) #[.int .i64 0, .slice none 0 0, .int .i64 0, .int .i64 0, .slice none 0 0] 32 := by
    have hq := Blk.new ((w.alloc (Obj.cells #[Value.int .i64 u, Value.int .i64 z, Value.slice a l ca] 26)).alloc (Obj.cells #[Value.slice p m cp] 28)) #[.int .i64 0, .slice none 0 0, .int .i64 0, .int .i64 0, .slice none 0 0] 32
    rw [World.size_alloc, World.size_alloc] at hq
    exact (hb2.block (w.heap.size + 2) (by simp)).trans hq
  have hz2 : w.heap.size + 2 < w2.heap.size := rb.lt
  clear hb2
  by_cases hF0 : F = 0
  case neg =>
    have hF0' : (F == 0) = false := by simpa using hF0
    have E := hid (rr_bad (at_ := at_) (n := n) (M := M) (rr_asked (show asked u z bs xs.length ≠ 0 by rw [← HF.out]; exact hF0)) (by rw [← HF.out]; exact hF0))
    rw [← HF.out] at E
    go_wp2_with fail
    refine (l3Bad_res F _).mono ?_
    rintro e w3 ⟨rfl, hb3⟩
    have hb03 := hb.trans (hb3.mono hb.size)
    replace rb : Blk w3 (w.heap.size + 2) #[.int .i64 0, .slice none 0 0, .int .i64 0, .int .i64 0, .slice none 0 0] 32 := (hb3.block _ rb.lt).trans rb
    have d0 := rb.cell 0
    have d1 := rb.cell 1
    have d2 := rb.cell 2
    have d3 := rb.cell 3
    have d4 := rb.cell 4
    have f0 := rb.frozen 0
    have f1 := rb.frozen 1
    have f2 := rb.frozen 2
    have f3 := rb.frozen 3
    have f4 := rb.frozen 4
    simp at d0 d1 d2 d3 d4
    clear rb
    go_wp2
    refine bodyPost_ret (v := .agg #[.int .i64 F, .slice none 0 0, .int .i64 0, .int .i64 0, .slice none 0 0]) (by simp [results, Try.results21, go_sem, d0, d1, d2, d3, d4]) rfl ⟨.slice none 0 0, .slice none 0 0, by rw [E.out.1, E.out.2.1, E.out.2.2.1], by rw [E.out.2.2.2.1]; exact RowI.nil _ _ _ _ _, by rw [E.out.2.2.2.2]; exact RowB.nil _ _ _ _ _, ?_⟩
    exact ((((hb03.setCell (by simp; omega) _).setCell (by simp; omega) _).setCell (by simp; omega) _).setCell (by simp; omega) _).setCell (by simp; omega) _
  subst hF0
  by_cases hat : 0 ≤ at_ ∧ at_ ≤ 400
  case neg =>
    have E := hid (rr_bad (at_ := at_) (n := n) (M := M) (rr_range HF.out.symm (by unfold rrBad; omega)) (by omega))
    go_wp2_with fail
    refine (l1In_is at_ 0 400 false _ (decide_eq_false hat)).mono ?_
    rintro e w2' ⟨rfl, hw2e⟩
    subst w2'
    go_wp2_with fail
    refine (l3Bad_res 3 _).mono ?_
    rintro e w3 ⟨rfl, hb3⟩
    have hb03 := hb.trans (hb3.mono hb.size)
    replace rb : Blk w3 (w.heap.size + 2) #[.int .i64 0, .slice none 0 0, .int .i64 0, .int .i64 0, .slice none 0 0] 32 := (hb3.block _ rb.lt).trans rb
    have d0 := rb.cell 0
    have d1 := rb.cell 1
    have d2 := rb.cell 2
    have d3 := rb.cell 3
    have d4 := rb.cell 4
    have f0 := rb.frozen 0
    have f1 := rb.frozen 1
    have f2 := rb.frozen 2
    have f3 := rb.frozen 3
    have f4 := rb.frozen 4
    simp at d0 d1 d2 d3 d4
    clear rb
    go_wp2
    refine bodyPost_ret (v := .agg #[.int .i64 3, .slice none 0 0, .int .i64 0, .int .i64 0, .slice none 0 0]) (by simp [results, Try.results21, go_sem, d0, d1, d2, d3, d4]) rfl ⟨.slice none 0 0, .slice none 0 0, by rw [E.out.1, E.out.2.1, E.out.2.2.1], by rw [E.out.2.2.2.1]; exact RowI.nil _ _ _ _ _, by rw [E.out.2.2.2.2]; exact RowB.nil _ _ _ _ _, ?_⟩
    exact ((((hb03.setCell (by simp; omega) _).setCell (by simp; omega) _).setCell (by simp; omega) _).setCell (by simp; omega) _).setCell (by simp; omega) _
  by_cases hn : 0 ≤ n ∧ n ≤ 400
  case neg =>
    have E := hid (rr_bad (at_ := at_) (n := n) (M := M) (rr_range HF.out.symm (by unfold rrBad; omega)) (by omega))
    go_wp2_with fail
    refine (l1In_is at_ 0 400 true _ (decide_eq_true hat)).mono ?_
    rintro e w2' ⟨rfl, hw2e⟩
    subst w2'
    go_wp2_with fail
    refine (l1In_is n 0 400 false _ (decide_eq_false hn)).mono ?_
    rintro e w2' ⟨rfl, hw2e⟩
    subst w2'
    go_wp2_with fail
    refine (l3Bad_res 3 _).mono ?_
    rintro e w3 ⟨rfl, hb3⟩
    have hb03 := hb.trans (hb3.mono hb.size)
    replace rb : Blk w3 (w.heap.size + 2) #[.int .i64 0, .slice none 0 0, .int .i64 0, .int .i64 0, .slice none 0 0] 32 := (hb3.block _ rb.lt).trans rb
    have d0 := rb.cell 0
    have d1 := rb.cell 1
    have d2 := rb.cell 2
    have d3 := rb.cell 3
    have d4 := rb.cell 4
    have f0 := rb.frozen 0
    have f1 := rb.frozen 1
    have f2 := rb.frozen 2
    have f3 := rb.frozen 3
    have f4 := rb.frozen 4
    simp at d0 d1 d2 d3 d4
    clear rb
    go_wp2
    refine bodyPost_ret (v := .agg #[.int .i64 3, .slice none 0 0, .int .i64 0, .int .i64 0, .slice none 0 0]) (by simp [results, Try.results21, go_sem, d0, d1, d2, d3, d4]) rfl ⟨.slice none 0 0, .slice none 0 0, by rw [E.out.1, E.out.2.1, E.out.2.2.1], by rw [E.out.2.2.2.1]; exact RowI.nil _ _ _ _ _, by rw [E.out.2.2.2.2]; exact RowB.nil _ _ _ _ _, ?_⟩
    exact ((((hb03.setCell (by simp; omega) _).setCell (by simp; omega) _).setCell (by simp; omega) _).setCell (by simp; omega) _).setCell (by simp; omega) _
  by_cases hM : 1 ≤ M ∧ M ≤ 400
  case neg =>
    have E := hid (rr_bad (at_ := at_) (n := n) (M := M) (rr_range HF.out.symm (by unfold rrBad; omega)) (by omega))
    go_wp2_with fail
    refine (l1In_is at_ 0 400 true _ (decide_eq_true hat)).mono ?_
    rintro e w2' ⟨rfl, hw2e⟩
    subst w2'
    go_wp2_with fail
    refine (l1In_is n 0 400 true _ (decide_eq_true hn)).mono ?_
    rintro e w2' ⟨rfl, hw2e⟩
    subst w2'
    go_wp2_with fail
    refine (l1In_is M 1 400 false _ (decide_eq_false hM)).mono ?_
    rintro e w2' ⟨rfl, hw2e⟩
    subst w2'
    go_wp2_with fail
    refine (l3Bad_res 3 _).mono ?_
    rintro e w3 ⟨rfl, hb3⟩
    have hb03 := hb.trans (hb3.mono hb.size)
    replace rb : Blk w3 (w.heap.size + 2) #[.int .i64 0, .slice none 0 0, .int .i64 0, .int .i64 0, .slice none 0 0] 32 := (hb3.block _ rb.lt).trans rb
    have d0 := rb.cell 0
    have d1 := rb.cell 1
    have d2 := rb.cell 2
    have d3 := rb.cell 3
    have d4 := rb.cell 4
    have f0 := rb.frozen 0
    have f1 := rb.frozen 1
    have f2 := rb.frozen 2
    have f3 := rb.frozen 3
    have f4 := rb.frozen 4
    simp at d0 d1 d2 d3 d4
    clear rb
    go_wp2
    refine bodyPost_ret (v := .agg #[.int .i64 3, .slice none 0 0, .int .i64 0, .int .i64 0, .slice none 0 0]) (by simp [results, Try.results21, go_sem, d0, d1, d2, d3, d4]) rfl ⟨.slice none 0 0, .slice none 0 0, by rw [E.out.1, E.out.2.1, E.out.2.2.1], by rw [E.out.2.2.2.1]; exact RowI.nil _ _ _ _ _, by rw [E.out.2.2.2.2]; exact RowB.nil _ _ _ _ _, ?_⟩
    exact ((((hb03.setCell (by simp; omega) _).setCell (by simp; omega) _).setCell (by simp; omega) _).setCell (by simp; omega) _).setCell (by simp; omega) _
  obtain ⟨hok, hm4⟩ := asked_ok HF.out.symm
  have E := hid (rr_good (at_ := at_) (n := n) (M := M) HF.out.symm (by unfold rrBad; omega))
  have hu1 := hok.u1
  obtain ⟨U, rfl⟩ : ∃ U : Nat, u = (U : Int) := ⟨u.toNat, by omega⟩
  obtain ⟨P0, rfl⟩ : ∃ N : Nat, at_ = (N : Int) := ⟨at_.toNat, by omega⟩
  obtain ⟨nn, rfl⟩ : ∃ N : Nat, n = (N : Int) := ⟨n.toNat, by omega⟩
  obtain ⟨K, rfl⟩ : ∃ K : Nat, M = (K : Int) := ⟨M.toNat, by omega⟩
  obtain ⟨R1, R2, hR⟩ : ∃ R1 R2, rg U z xs (P0 + nn) (nn + 1) P0 bs = (R1, R2) := ⟨_, _, rfl⟩
  unfold rgOf at E
  simp only [Int.toNat_natCast] at E
  rw [hR] at E
  simp only at E
  have hnl : bs.length = l := HA.out.len
  have hle : lessI (-1) bs l = bs := by rw [← hnl, lessI_none (by omega) _ (Nat.le_refl _), List.take_length]
  have CL : Hid _ := fun w' h' => l3Less_any (U : Int) z a l ca bs (-1) w' h' h1
  rw [hle] at CL
  have CS : Hid _ := fun a' ca' lo w' hc' ha' hp' hlo => l3Range_any (w.heap.size + 1) U z a' ca' bs p m cp xs P0 nn K lo w' hc' ha' hp' hok (by omega) hmc HCM.out (by omega) (by omega) (by omega) (by omega) hlo R1 R2 hR
  clear hok hR hu1 hle
  go_wp2_with fail
  refine (l1In_is (P0 : Int) 0 400 true _ (decide_eq_true hat)).mono ?_
  rintro e w2' ⟨rfl, hw2e⟩
  subst w2'
  go_wp2_with fail
  refine (l1In_is (nn : Int) 0 400 true _ (decide_eq_true hn)).mono ?_
  rintro e w2' ⟨rfl, hw2e⟩
  subst w2'
  go_wp2_with fail
  refine (l1In_is (K : Int) 1 400 true _ (decide_eq_true hM)).mono ?_
  rintro e w2' ⟨rfl, hw2e⟩
  subst w2'
  go_wp2_with fail
  refine Calls.mono (CL.out _ (HA.out.below (by first | exact hb | exact hb.drew))) ?_
  rintro e w3 ⟨v3, rfl, hr3, hb3⟩
  obtain ⟨a3, c3, rfl, -, -⟩ := hr3.shape
  have hb03 := hb.trans (hb3.mono hb.size)
  replace rb : Blk w3 (w.heap.size + 2) #[.int .i64 0, .slice none 0 0, .int .i64 0, .int .i64 0, .slice none 0 0] 32 := (hb3.block _ rb.lt).trans rb
  have hz3 := hb3.size
  have CS3 := hid (CS.out a3 c3 w2.heap.size w3 (cell_later hb3 (by simpa using qf)) (by exact hr3) (HP.out.below hb03) hz3)
  rw [hnl] at CS3
  clear CS CL hr3
  go_wp2_with fail
  refine Calls.mono CS3.out ?_
  rintro e w4 ⟨v4, v5, rfl, hy4, hr4, hb4⟩
  obtain ⟨y3, k3, rfl, -, -⟩ := hy4.shape
  obtain ⟨a4, c4, rfl, -, -⟩ := hr4.shape
  have hb04 := hb03.trans (hb4.mono hb03.size)
  have hlt := rb.lt
  have hz4 := hb4.size
  have n4 : Below w4.heap.size w4 (w4.alloc (Obj.cells #[Value.int .i64 U, Value.int .i64 z, Value.slice a4 R2.length c4] 26)) := (Below.refl _ _).alloc (Nat.le_refl _) _
  replace rb : Blk w4 (w.heap.size + 2) #[.int .i64 0, .slice none 0 0, .int .i64 0, .int .i64 0, .slice none 0 0] 32 := (hb4.block _ rb.lt).trans rb
  have rb4 := rb.alloc (Obj.cells #[Value.int .i64 U, Value.int .i64 z, Value.slice a4 R2.length c4] 26)
  have HY3 := hid (RowI.below hy4 n4)
  have HR3 := hid (RowB.below hr4 n4)
  have hb5 := hb04.alloc (by omega) (Obj.cells #[Value.int .i64 U, Value.int .i64 z, Value.slice a4 R2.length c4] 26)
  have HB4 := hid hb5
  clear hy4 hr4 hb3 hb4 CS3 n4 hb5 rb
  have rb := rb4
  clear rb4
  have d0 := rb.cell 0
  have d1 := rb.cell 1
  have d2 := rb.cell 2
  have d3 := rb.cell 3
  have d4 := rb.cell 4
  have f0 := rb.frozen 0
  have f1 := rb.frozen 1
  have f2 := rb.frozen 2
  have f3 := rb.frozen 3
  have f4 := rb.frozen 4
  simp at d0 d1 d2 d3 d4
  clear rb
  have hg5 : ∀ (W : World) x0 x1 x2 x3 x4, W.grownBy (((((W.setCell ⟨w.heap.size + 2, 0, none⟩ x0).setCell ⟨w.heap.size + 2, 1, none⟩ x1).setCell ⟨w.heap.size + 2, 2, none⟩ x2).setCell ⟨w.heap.size + 2, 3, none⟩ x3).setCell ⟨w.heap.size + 2, 4, none⟩ x4) (some (w.heap.size + 2)) := fun W x0 x1 x2 x3 x4 => grownT (grownT (grownT (grownT (set_grown _ _ _ _) (set_grown _ _ _ _)) (set_grown _ _ _ _)) (set_grown _ _ _ _)) (set_grown _ _ _ _)
  have HG5 := hid hg5
  clear hg5
  go_wp2
  refine bodyPost_ret (v := .agg #[.int .i64 0, .slice y3 R1.length k3, .int .i64 U, .int .i64 z, .slice a4 R2.length c4]) (by simp [results, Try.results21, go_sem, d0, d1, d2, d3, d4]) rfl ⟨.slice y3 R1.length k3, .slice a4 R2.length c4, by rw [E.out.1, E.out.2.1, E.out.2.2.1], ?_, ?_, ?_⟩
  · rw [E.out.2.2.2.1]
    have hq := RowI.chg HY3.out (Chg.one (HG5.out _ (.int .i64 0) (.slice y3 R1.length k3) (.int .i64 U) (.int .i64 z) (.slice a4 R2.length c4))) (.inr (by omega))
    exact hq.mono (by omega) (by simp [World.setCell])
  · rw [E.out.2.2.2.2]
    have hq := RowB.chg HR3.out (Chg.one (HG5.out _ (.int .i64 0) (.slice y3 R1.length k3) (.int .i64 U) (.int .i64 z) (.slice a4 R2.length c4))) (.inr (by omega))
    exact hq.mono (by omega) (by simp [World.setCell])
  · exact ((((HB4.out.setCell (by simp; omega) _).setCell (by simp; omega) _).setCell (by simp; omega) _).setCell (by simp; omega) _).setCell (by simp; omega) _
end Go.Proofs.Ytckkkhabjfbngaa
