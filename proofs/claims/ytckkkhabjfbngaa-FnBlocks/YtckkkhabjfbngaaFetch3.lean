/-
  The specification fetches.
-/
import Derived.Test.YtckkkhabjfbngaaFetch3M
import Derived.Test.YtckkkhabjfbngaaForget2
import Derived.Test.YtckkkhabjfbngaaCache1
import Derived.Test.YtckkkhabjfbngaaApart
namespace Go.Proofs.Ytckkkhabjfbngaa
open Go.RowKit Go.ChangeMaps Go.MapKept
set_option linter.unusedVariables false
set_option linter.unusedSimpArgs false

set_option maxHeartbeats 3200000 in
set_option maxRecDepth 20000 in
theorem l3Fetch_any (bf : Nat) (u z : Int) (a : Option Addr) (n ca : Nat) (bs : List Bk) (p : Option Addr) (m cp : Nat) (xs : List Int) (U num M : Nat) (w : World) (hc : w.cell? ⟨bf, 0, none⟩ = some (.slice p m cp)) (ha : RdB w a n bs) (hp : Rd .u8 w p m xs) (hok : OkC u z bs) (hu : u = (U : Int)) (h1 : (n : Int) + byB bs ≤ 1048576) (hm : m ≤ 1048576) (hmc : m ≤ cp) (hcm : cp ≤ maxLen) (hnum : num ≤ 1000) (hM1 : 1 ≤ M) (hM : M ≤ 400) :
    Calls Try.prog 56 #[.agg #[.int .i64 u, .int .i64 z, .slice a n ca], .pointer (some ⟨bf, 0, none⟩), .int .i64 num, .int .i64 M] w fun e w' => ∃ vb va, e = .returned (.tuple #[vb, .agg #[.int .i64 u, .int .i64 z, va]]) ∧
      RowI .u8 5 w' w.heap.size w'.heap.size vb (ftB U bs xs num).length (ftB U bs xs num) ∧ RowB 93 5 w' w.heap.size w'.heap.size va (ftQ z bs num (ftB U bs xs num)).length (ftQ z bs num (ftB U bs xs num)) ∧ Below w.heap.size w w' := by
  obtain ⟨i0, hi, hz0, hz1, hz2⟩ := info_parts infoB
  have hlen := ha.len
  have hU : U ≤ 64 := by have := hok.u2; omega
  have hzl := hok.len
  have hz6 := hok.z2
  have hz0' := hok.z1
  obtain ⟨P, hP⟩ : ∃ P, P = num * U := ⟨_, rfl⟩
  have hnU : P ≤ 64000 := by rw [hP]; exact Nat.le_trans (Nat.mul_le_mul hnum hU) (by decide)
  have hnI : (num : Int) * (U : Int) = (P : Int) := by rw [hP]; push_cast; rfl
  have HPd := hid hP
  clear hP
  have ways := fetch_ways (U := U) hok xs num
  have hfl := ftB_len (U := U) (Z := z) (by rw [← hu]; exact hok) xs num
  have hll := lessB_len bs num
  have hbf : bf < w.heap.size := block_lt_of_cell hc
  subst hu
  obtain ⟨Y, hY⟩ : ∃ Y, Y = ftB U bs xs num := ⟨_, rfl⟩
  obtain ⟨L, hL⟩ : ∃ L, L = lessB bs num := ⟨_, rfl⟩
  rw [← hY] at hfl
  rw [← hL] at hll
  have W0b : ∀ o1 o2, Below w.heap.size w ((w.alloc o1).alloc o2) := fun o1 o2 => ((Below.refl _ _).alloc (Nat.le_refl _) o1).alloc (by simp) o2
  have CA : Hid _ := fun w' hc' h' => l3At_any w.heap.size a n ca bs num w' hc' h' (by omega)
  have HA : Hid (RdB w a n bs) := ha
  have HP : Hid (Rd .u8 w p m xs) := hp
  have HCM := hid hcm
  have HOK := hid hok
  have HC := hid hc
  have HY := hid hY
  have HL := hid hL
  clear ha hp hcm hok hc hY hL
  go_enter Try.func56, Try.ntmps56
  go_wp2_with fail
  refine Calls.mono (CA.out _ (by simp [go_sem]) (HA.out.below (W0b _ _))) ?_
  rintro e w2 ⟨rfl, hw2⟩
  obtain ⟨W1, hW1⟩ : ∃ W1, W1 = (w.alloc (Obj.cells #[Value.int .i64 U, Value.int .i64 z, Value.slice a n ca] 26)).alloc (Obj.cells #[Value.int .i64 0, Value.int .i64 0, Value.slice none 0 0] 26) := ⟨_, rfl⟩
  rw [← hW1] at hw2
  subst hw2
  have b0 : Below w.heap.size w w2 := by rw [hW1]; exact W0b _ _
  have hz2' : w2.heap.size = w.heap.size + 2 := by rw [hW1]; simp
  have cb : Blk w2 w.heap.size #[.int .i64 U, .int .i64 z, .slice a n ca] 26 := by
    rw [hW1]
    exact (Blk.new w _ _).alloc _
  have rb : Blk w2 (w.heap.size + 1) #[.int .i64 0, .int .i64 0, .slice none 0 0] 26 := by
    rw [hW1]
    have h := Blk.new (w.alloc (Obj.cells #[Value.int .i64 U, Value.int .i64 z, Value.slice a n ca] 26)) #[.int .i64 0, .int .i64 0, .slice none 0 0] 26
    rw [World.size_alloc] at h
    exact h
  clear hW1 W0b
  have g0 := cb.cell 0
  have g1 := cb.cell 1
  have g2 := cb.cell 2
  simp at g0 g1 g2
  have CB := hid cb
  have RB := hid rb
  clear cb rb
  rcases ways with ⟨at1, at2, at3, at4⟩ | ⟨i, ys, at1, hi', hx, at2, at4, hy1⟩
  · rw [at1]
    have CL : Hid _ := fun w' hc' h' => l3Load_any bf p m cp P U M xs w' hc' h' (by omega) hmc HCM.out hU (by omega) hM1 hM
    have hA : Below w.heap.size w (w2.alloc (Obj.cells #[] 5)) := b0.trans (((Below.refl w2.heap.size w2).alloc (Nat.le_refl _) _).mono (by omega))
    go_wp2_with fail
    refine Calls.mono (CL.out _ (cell_later hA HC.out) (HP.out.below hA)) ?_
    rintro e w4 ⟨v4, rfl, hy4, hb4⟩
    have hYe : (xs.drop P).take U = Y := by rw [HY.out, at4, HPd.out]; rfl
    rw [hYe] at hy4
    clear hYe CL
    obtain ⟨ya, yc, rfl, -, -⟩ := hy4.shape
    have hsA : (w2.alloc (Obj.cells #[] 5)).heap.size = w.heap.size + 3 := by simp [hz2']
    have b4 : Below w.heap.size w w4 := hA.trans (hb4.mono (by omega))
    have hz4 : w.heap.size + 3 ≤ w4.heap.size := by have := hb4.size; omega
    have hAA : Below w2.heap.size w2 w4 := ((Below.refl w2.heap.size w2).alloc (Nat.le_refl _) _).trans (hb4.mono (by simp))
    have cb4 : Blk w4 w.heap.size #[.int .i64 U, .int .i64 z, .slice a n ca] 26 := (hAA.block _ (Blk.lt CB.out)).trans CB.out
    have rb4 : Blk w4 (w.heap.size + 1) #[.int .i64 0, .int .i64 0, .slice none 0 0] 26 := (hAA.block _ (Blk.lt RB.out)).trans RB.out
    rw [hsA] at hy4
    have HY4 := hid hy4
    have CB4 := hid cb4
    have RB4 := hid rb4
    have HB4 := hid b4
    have c0 := cb4.cell 0
    have c1 := cb4.cell 1
    have c2 := cb4.cell 2
    simp at c0 c1 c2
    have CLs : Hid _ := fun w' h' => l3Less_any U z a n ca bs (-1) w' h' h1
    clear hy4 cb4 rb4 b4 hb4 hA hAA CB RB g0 g1 g2 b0
    go_wp2_with fail
    refine Calls.mono (CLs.out _ (HA.out.below HB4.out)) ?_
    rintro e w5 ⟨v5, rfl, hro5, hb5⟩
    rw [← hlen, at2, ← HL.out] at hro5
    obtain ⟨la, lc, rfl, -, -⟩ := hro5.shape
    have hz5 : w4.heap.size ≤ w5.heap.size := hb5.size
    have n5 : Below w5.heap.size w5 (w5.alloc (Obj.cells #[Value.int .i64 U, Value.int .i64 z, Value.slice la L.length lc] 26)) := (Below.refl _ _).alloc (Nat.le_refl _) _
    have n45 := hb5.trans (n5.mono hz5)
    have cb6 : Blk _ w.heap.size #[.int .i64 U, .int .i64 z, .slice a n ca] 26 := (n45.block _ (Blk.lt CB4.out)).trans CB4.out
    have rb6 : Blk _ (w.heap.size + 1) #[.int .i64 0, .int .i64 0, .slice none 0 0] 26 := (n45.block _ (Blk.lt RB4.out)).trans RB4.out
    have ob6 := Blk.new w5 #[.int .i64 U, .int .i64 z, .slice la L.length lc] 26
    have b6 : Below w.heap.size w (w5.alloc (Obj.cells #[Value.int .i64 U, Value.int .i64 z, Value.slice la L.length lc] 26)) := HB4.out.trans (n45.mono (by omega))
    have hy6 := RowI.below HY4.out n45
    have hl6 := RowB.below hro5 n5
    have hz6' : (w5.alloc (Obj.cells #[Value.int .i64 U, Value.int .i64 z, Value.slice la L.length lc] 26)).heap.size = w5.heap.size + 1 := by simp
    obtain ⟨W6, hW6⟩ : ∃ W6, W6 = w5.alloc (Obj.cells #[Value.int .i64 U, Value.int .i64 z, Value.slice la L.length lc] 26) := ⟨_, rfl⟩
    rw [← hW6] at cb6 rb6 ob6 b6 hy6 hl6 hz6'
    obtain ⟨OB, hOB⟩ : ∃ OB, OB = w5.heap.size := ⟨_, rfl⟩
    have HOB := hid hOB
    clear n5 n45 CB4 RB4 HB4 HY4 hro5 hb5 CLs c0 c1 c2
    have HY6 := hid hy6
    have HL6 := hid hl6
    have CB6 := hid cb6
    have RB6 := hid rb6
    have OB6 := hid ob6
    have B6 := hid b6
    clear hy6 hl6 cb6 rb6 ob6 b6
    by_cases hY0 : Y.length = 0
    · have hgt : ¬ z < (L.length : Int) := by omega
      have hgt' : ¬ (L.length : Int) > z := by omega
      have hgb : decide ((L.length : Int) > z) = false := decide_eq_false hgt'
      have k1 : (w5.alloc (Obj.cells #[Value.int .i64 U, Value.int .i64 z, Value.slice la L.length lc] 26)).cell? ⟨w.heap.size, 1, none⟩ = some (.int .i64 z) := by
        have h := CB6.out.cell 1
        rw [hW6] at h
        simpa using h
      go_wp2_with fail
      rw [← hW6]
      clear hW6 k1
      have rbG := RB6.out
      have obG := OB6.out
      have bG := B6.out
      have EQ := hid ((ftQ_none (z := z) (bs := bs) (num := (num : Int)) hY0).trans (at3.symm.trans HL.out.symm))
      have hYe0 := HY6.out
      rw [hY0] at hYe0
      have HYG := hid hYe0
      have hqq := RowB.mono HL6.out (Nat.le_refl _) (show w5.heap.size ≤ W6.heap.size by omega)
      have HQG := hid hqq
      have hGz : w4.heap.size ≤ W6.heap.size := by omega
      clear hYe0 hqq
      have d0 := rbG.cell 0
      have d1 := rbG.cell 1
      have d2 := rbG.cell 2
      have df0 := rbG.frozen 0
      have df1 := rbG.frozen 1
      have df2 := rbG.frozen 2
      have o0 := obG.cell 0
      have o1 := obG.cell 1
      have o2 := obG.cell 2
      simp at d0 d1 d2 o0 o1 o2
      have hgs : ∀ x y q, W6.grownBy (((W6.setCell ⟨w.heap.size + 1, 0, none⟩ x).setCell ⟨w.heap.size + 1, 1, none⟩ y).setCell ⟨w.heap.size + 1, 2, none⟩ q) (some (w.heap.size + 1)) := fun x y q => grownT (grownT (set_grown _ _ _ _) (set_grown _ _ _ _)) (set_grown _ _ _ _)
      have HGS := hid hgs
      clear obG rbG hgs
      go_region
      go_wp2
      refine bodyPost_ret (v := .tuple #[.slice ya 0 yc, .agg #[.int .i64 U, .int .i64 z, .slice la L.length lc]]) (by simp [results, Try.results56, go_sem, d0, d1, d2]) rfl ⟨.slice ya 0 yc, .slice la L.length lc, rfl, ?_, ?_, ?_⟩
      · have hq := RowI.below (RowI.chg HYG.out (Chg.one (HGS.out (.int .i64 U) (.int .i64 z) (.slice la L.length lc))) (.inr (by omega))) ((Below.refl _ _).drew)
        rw [← HY.out]
        first | exact hq.mono (by omega) (by simpa [World.setCell] using hGz) | (rw [hY0]; exact hq.mono (by omega) (by simpa [World.setCell] using hGz))
      · have hq := RowB.below (RowB.chg HQG.out (Chg.one (HGS.out (.int .i64 U) (.int .i64 z) (.slice la L.length lc))) (.inr (by omega))) ((Below.refl _ _).drew)
        rw [← HY.out, EQ.out]
        exact hq.mono (by omega) (by simp [World.setCell])
      · exact (((bG.setCell (by simp) _).setCell (by simp) _).setCell (by simp) _).drew
    · have hY0' : 0 < Y.length := by omega
      go_wp2_with fail
      rw [← hW6]
      clear hW6
      have obV := OB6.out
      have o2V := obV.cell 2
      have of2V := obV.frozen 2
      simp at o2V
      have hdr : Below W6.heap.size W6 W6.drew := (Below.refl _ _).drew
      have HR : Hid (Rd .u8 W6.drew ya Y.length Y) := (RowI.below HY6.out hdr).1.read
      have HO : Hid (RowB 93 5 W6.drew w4.heap.size w5.heap.size (.slice la L.length lc) L.length L) := RowB.below HL6.out hdr
      have CC : Hid _ := fun w' h' => l1Copy_any ya Y.length yc Y w' h' (by omega)
      clear obV hdr
      refine wp_region_held_drew (S := fun w' => (∃ q, w'.cell? ⟨w5.heap.size, 2, none⟩ = some q) ∧ w'.frozen? ⟨w5.heap.size, 2, none⟩ = false) (by kernel_rfl) (by exact ⟨⟨_, o2V⟩, of2V⟩) (fun hS => ?_)
      refine wpAnyH_take (i := 0) (v := (.pointer (some ⟨w5.heap.size, 2, none⟩))) rfl (by as_aux_lemma => kernel_rfl) (by as_aux_lemma => kernel_rfl) (by as_aux_lemma => kernel_rfl) (fun _ _ _ h => h) (Or.inl ⟨by kernel_rfl, ?_⟩) hS ?_
      · intro w hSw; (try dsimp only at hSw); go_simp
      simp only [Act.put, List.getElem_toArray, List.getElem_cons_zero, List.getElem_cons_succ, List.setIfInBounds_toArray, List.set_cons_zero, List.set_cons_succ]
      refine wpAnyH_take (i := 2) (v := (.int .i64 (num : Int))) rfl (by as_aux_lemma => kernel_rfl) (by as_aux_lemma => kernel_rfl) (by as_aux_lemma => kernel_rfl) (fun _ _ _ h => h) (Or.inl ⟨by kernel_rfl, ?_⟩) hS ?_
      · intro w hSw; (try dsimp only at hSw); go_simp
      simp only [Act.put, List.getElem_toArray, List.getElem_cons_zero, List.getElem_cons_succ, List.setIfInBounds_toArray, List.set_cons_zero, List.set_cons_succ]
      refine wpAnyH_take (i := 3) (v := (.slice ya Y.length yc)) rfl (by as_aux_lemma => kernel_rfl) (by as_aux_lemma => kernel_rfl) (by as_aux_lemma => kernel_rfl) (fun _ _ _ h => h) (Or.inl ⟨by kernel_rfl, ?_⟩) hS ?_
      · intro w hSw; (try dsimp only at hSw); go_simp
      simp only [Act.put, List.getElem_toArray, List.getElem_cons_zero, List.getElem_cons_succ, List.setIfInBounds_toArray, List.set_cons_zero, List.set_cons_succ]
      refine wpAnyH_ready (rs := [1, 4]) (by as_aux_lemma => kernel_rfl) (by simp) ?_
      refine AllReadyH.cons rfl (fun K hK => ?_) (AllReadyH.cons rfl (fun K hK => ?_) AllReadyH.nil)
      · go_simp
        refine hK.out _ _ hS (fun hS => ?_)
        clear hK K
        (try simp only [Act.put, List.getElem_toArray, List.getElem_cons_zero, List.getElem_cons_succ, List.setIfInBounds_toArray, List.set_cons_zero, List.set_cons_succ])
        refine wpAnyH_ready (rs := [4]) (by as_aux_lemma => kernel_rfl) (by simp) ?_
        refine AllReadyH.cons rfl (fun K hK => ?_) AllReadyH.nil
        go_simp
        refine Calls.mono (CC.out _ (by exact HR.out)) ?_
        rintro e' v' ⟨v2', rfl, hrow2, hv'⟩
        obtain ⟨a2, c2, rfl, -, -⟩ := hrow2.shape
        have o2C : W6.drew.cell? ⟨w5.heap.size, 2, none⟩ = some (.slice la L.length lc) := o2V
        have ltC : w5.heap.size < W6.drew.heap.size := by show w5.heap.size < W6.heap.size; omega
        refine hK.out _ _ ⟨⟨_, cell_later hv' o2C⟩, (hv'.frozen (p := ⟨w5.heap.size, 2, none⟩) ltC).trans hS.2⟩ (fun hS => ?_)
        clear hK K
        have o2D := cell_later hv' o2C
        have ltD : w5.heap.size < v'.heap.size := Nat.lt_of_lt_of_le ltC hv'.size
        clear o2C ltC
        (try simp only [Act.put, List.getElem_toArray, List.getElem_cons_zero, List.getElem_cons_succ, List.setIfInBounds_toArray, List.set_cons_zero, List.set_cons_succ])
        refine wpAnyH_take (i := 5) (v := (.agg #[.int .i64 num, .slice a2 Y.length c2])) rfl (by as_aux_lemma => kernel_rfl) (by as_aux_lemma => kernel_rfl) (by as_aux_lemma => kernel_rfl) (fun _ _ _ h => h) (Or.inl ⟨by kernel_rfl, ?_⟩) hS ?_
        · intro w hSw; (try dsimp only at hSw); go_simp
        simp only [Act.put, List.getElem_toArray, List.getElem_cons_zero, List.getElem_cons_succ, List.setIfInBounds_toArray, List.set_cons_zero, List.set_cons_succ]
        refine wpAnyH_ready (rs := [6]) (by as_aux_lemma => kernel_rfl) (by simp) ?_
        refine AllReadyH.cons rfl (fun K hK => ?_) AllReadyH.nil
        go_simp
        have o2C := o2D
        have ltC := ltD
        have hbN : Below v'.heap.size v' (v'.alloc (Obj.cells #[Value.int .i64 num, Value.slice a2 Y.length c2] 93)) := (Below.refl _ _).alloc (Nat.le_refl _) _
        refine hK.out _ _ ⟨⟨_, cell_later hbN o2C⟩, (hbN.frozen (p := ⟨w5.heap.size, 2, none⟩) ltC).trans hS.2⟩ (fun hS => ?_)
        clear hK K
        have o2F := cell_later hbN o2C
        have ltF : w5.heap.size < (v'.alloc (Obj.cells #[Value.int .i64 num, Value.slice a2 Y.length c2] 93)).heap.size := Nat.lt_of_lt_of_le ltC hbN.size
        (try simp only [Act.put, List.getElem_toArray, List.getElem_cons_zero, List.getElem_cons_succ, List.setIfInBounds_toArray, List.set_cons_zero, List.set_cons_succ])
        have hoF : RowB 93 5 (v'.alloc (Obj.cells #[Value.int .i64 num, Value.slice a2 Y.length c2] 93)) w4.heap.size w5.heap.size (.slice la L.length lc) L.length L := (RowB.below HO.out hv').below hbN
        have hrF : RowI .u8 5 (v'.alloc (Obj.cells #[Value.int .i64 num, Value.slice a2 Y.length c2] 93)) W6.drew.heap.size v'.heap.size (.slice a2 Y.length c2) Y.length Y := hrow2.below hbN
        have hvz := hv'.size
        have hzd : W6.drew.heap.size = W6.heap.size := rfl
        have hup : ∀ g, (Value.slice la L.length lc).ownBlock = some g → g < w5.heap.size := by
          obtain ⟨us, q1, q2, q3, q4⟩ := hoF
          exact q1.2
        obtain ⟨us, hus⟩ : ∃ us : List Bv, (v'.alloc (Obj.cells #[Value.int .i64 num, Value.slice a2 Y.length c2] 93)).ownsRow w4.heap.size 93 2 (.slice la L.length lc) L.length (us.flatMap bkE) := by
          obtain ⟨us, q1, q2, q3, q4⟩ := hoF
          exact ⟨us, q1.1.2⟩
        have hcl : ∀ j q, (bkE ((num : Int), .slice a2 Y.length c2))[j]? = some q → (v'.alloc (Obj.cells #[Value.int .i64 num, Value.slice a2 Y.length c2] 93)).cell? ((⟨v'.heap.size, 0, none⟩ : Addr).add j) = some q := fun j q hq => by
          rw [Addr.add_lit, Nat.zero_add, World.cell?_alloc_at _ _ _ _ rfl]
          simpa [bkE] using hq
        have hFz : (v'.alloc (Obj.cells #[Value.int .i64 num, Value.slice a2 Y.length c2] 93)).heap.size = v'.heap.size + 1 := by simp
        have hVF : Below W6.heap.size W6 (v'.alloc (Obj.cells #[Value.int .i64 num, Value.slice a2 Y.length c2] 93)) := Below.trans (b := W6.drew) (by exact (Below.refl W6.heap.size W6).drew) (hv'.trans (hbN.mono hv'.size))
        have hb0F : Below w.heap.size w (v'.alloc (Obj.cells #[Value.int .i64 num, Value.slice a2 Y.length c2] 93)) := B6.out.trans (hVF.mono (by omega))
        have obF : Blk _ w5.heap.size #[.int .i64 U, .int .i64 z, .slice la L.length lc] 26 := (hVF.block _ (Blk.lt OB6.out)).trans OB6.out
        have cbF : Blk _ w.heap.size #[.int .i64 U, .int .i64 z, .slice a n ca] 26 := (hVF.block _ (Blk.lt CB6.out)).trans CB6.out
        have rbF : Blk _ (w.heap.size + 1) #[.int .i64 0, .int .i64 0, .slice none 0 0] 26 := (hVF.block _ (Blk.lt RB6.out)).trans RB6.out
        have hyF : RowI .u8 5 (v'.alloc (Obj.cells #[Value.int .i64 num, Value.slice a2 Y.length c2] 93)) (w.heap.size + 3) w4.heap.size (.slice ya Y.length yc) Y.length Y := RowI.below HY6.out hVF
        have HOF : Hid _ := hoF
        have HRF : Hid _ := hrF
        have HUS : Hid _ := hus
        have HYF : Hid _ := hyF
        have OBF := hid (show Blk _ _ _ _ from obF)
        have CBF := hid (show Blk _ _ _ _ from cbF)
        have RBF := hid (show Blk _ _ _ _ from rbF)
        have HCL : Hid _ := hcl
        generalize hFe : (v'.alloc (Obj.cells #[Value.int .i64 num, Value.slice a2 Y.length c2] 93)) = F at HOF HRF HUS HYF OBF CBF RBF HCL hb0F hFz hS o2F ltF ⊢
        clear hFe hoF hrF hus hcl obF cbF rbF hyF hVF hbN
        refine wpAnyH_ready (rs := [7]) (by as_aux_lemma => kernel_rfl) (by simp) ?_
        refine AllReadyH.cons rfl (fun K hK => ?_) AllReadyH.nil
        rw [if_pos (by rfl)]
        refine wp_append_own _ _ _ 24 rfl w4.heap.size 93 i0 (.agg #[.int .i64 0, .slice none 0 0]) 2 32 Try.underlying24 hi hz0 hz1 hz2 rfl (by decide) _ L.length (us.flatMap bkE) rfl HUS.out ⟨v'.heap.size, 0, none⟩ 1 1 (bkE ((num : Int), .slice a2 Y.length c2)) rfl rfl HCL.out (bkE_one num a2 Y.length c2) (by unfold maxLen; omega) (by omega) (by omega) ?_
        intro v7 w7 ho7 hg7 _
        have lo7 := World.ownsRow.lt HUS.out
        have hsn := RowB.snoc (num := num) bu_ne HOF.out HRF.out (by omega) (by omega) (by omega) (fun us' h' => by rw [ownsRow_same h' HUS.out]; exact ho7) hg7
        have hneq : ∀ B, B < w4.heap.size ∨ w5.heap.size ≤ B → some B ≠ (Value.slice la L.length lc).ownBlock := fun B hB hq => by have q1 := (lo7 B hq.symm).1; have q2 := hup B hq.symm; omega
        have ob7 := Blk.kept OBF.out hg7 (hneq _ (by omega))
        have cb7 := Blk.kept CBF.out hg7 (hneq _ (by omega))
        have rb7 := Blk.kept RBF.out hg7 (hneq _ (by omega))
        have b7 : Below w.heap.size w w7 := hb0F.grown hg7 (by omega) (fun j hj => by have := (lo7 j hj).1; omega)
        have hC7 : Chg w4.heap.size F.heap.size F w7 := Chg.of_grown hg7 (fun j hj => ⟨(lo7 j hj).1, (lo7 j hj).2⟩)
        have hy7 := RowI.chg HYF.out hC7 (.inl (by omega))
        obtain ⟨a7, c7, hv7, -, -⟩ := hsn.shape
        subst hv7
        have hz7 : w5.heap.size + 1 ≤ w7.heap.size := by have := hg7.size; omega
        have x2 := ob7.cell 2
        have xf2 := ob7.frozen 2
        simp at x2
        refine hK.out _ _ ⟨⟨_, x2⟩, xf2⟩ (fun hS => ?_)
        clear hK K
        (try simp only [Act.put, List.getElem_toArray, List.getElem_cons_zero, List.getElem_cons_succ, List.setIfInBounds_toArray, List.set_cons_zero, List.set_cons_succ])
        refine wpAnyH_take (i := 8) (v := (.pointer (some ⟨w5.heap.size, 2, none⟩))) rfl (by as_aux_lemma => kernel_rfl) (by as_aux_lemma => kernel_rfl) (by as_aux_lemma => kernel_rfl) (fun _ _ _ h => h) (Or.inl ⟨by kernel_rfl, ?_⟩) hS ?_
        · intro w hSw; (try dsimp only at hSw); go_simp
        simp only [Act.put, List.getElem_toArray, List.getElem_cons_zero, List.getElem_cons_succ, List.setIfInBounds_toArray, List.set_cons_zero, List.set_cons_succ]
        refine wpAnyH_ready (rs := [9]) (by as_aux_lemma => kernel_rfl) (by simp) ?_
        refine AllReadyH.cons rfl (fun K hK => ?_) AllReadyH.nil
        go_simp
        have ob8 := ob7.set (i := 2) (.slice a7 (L.length + 1) c7)
        refine hK.out _ _ ⟨⟨_, by simpa using ob8.cell 2⟩, ob8.frozen 2⟩ (fun hS => ?_)
        clear hK K
        refine wpAnyH_done (by kernel_rfl) ?_ _
        clear hS
        have cb8 := cb7.other (i := 2) (B' := w5.heap.size) (by omega) (.slice a7 (L.length + 1) c7)
        have rb8 := rb7.other (i := 2) (B' := w5.heap.size) (by omega) (.slice a7 (L.length + 1) c7)
        have hr8 := RowB.apart hsn ob7 (by decide) (by decide) (set_grown w7 w5.heap.size 2 (.slice a7 (L.length + 1) c7))
        have hy8 := RowI.chg hy7 (Chg.one (set_grown w7 w5.heap.size 2 (.slice a7 (L.length + 1) c7))) (.inl (by omega))
        have b8 := below_chg b7 (Chg.one (set_grown w7 w5.heap.size 2 (.slice a7 (L.length + 1) c7))) (by omega) (by omega)
        have hz8 : (w7.setCell ⟨w5.heap.size, 2, none⟩ (.slice a7 (L.length + 1) c7)).heap.size = w7.heap.size := by simp [World.setCell]
        rw [← hz8] at hr8 hz7
        obtain ⟨N1, hN1⟩ : ∃ N1, N1 = L.length + 1 := ⟨_, rfl⟩
        rw [← hN1] at ob8 cb8 rb8 hr8 hy8 b8 hz8 hz7 ⊢
        simp at ob8
        have HYG := hid (show RowI .u8 5 _ (w.heap.size + 3) w4.heap.size (.slice ya Y.length yc) Y.length Y from hy8)
        have HQG := hid (show RowB 93 5 _ w4.heap.size _ (.slice a7 N1 c7) N1 (L ++ [((num : Int), Y)]) from hr8)
        have CB8 := hid (show Blk _ _ _ _ from cb8)
        have RB8 := hid (show Blk _ _ _ _ from rb8)
        have OB8 := hid (show Blk _ _ #[.int .i64 U, .int .i64 z, .slice a7 N1 c7] _ from ob8)
        have B8 := hid b8
        clear cb8 rb8 ob8 hr8 hy8 b8 cb7 rb7 ob7 hsn hg7 ho7 hy7 hC7 HOF HRF HUS HYF OBF CBF RBF HCL hz8 x2 xf2 o2F ltF o2D ltD b7 hb0F lo7 hneq hup
        generalize w7.setCell ⟨w5.heap.size, 2, none⟩ (.slice a7 N1 c7) = G at HYG HQG CB8 RB8 OB8 B8 hz7 ⊢
        have x0 := CB8.out.cell 0
        have x1 := CB8.out.cell 1
        have y0 := OB8.out.cell 0
        have y1 := OB8.out.cell 1
        have y2 := OB8.out.cell 2
        simp at x0 x1 y0 y1 y2
        have hYn : ¬ Y.length = 0 := hY0
        by_cases hgt : z < (N1 : Int)
        · have EQ0 := hid (ftQ_more (num := (num : Int)) hYn (show z < ((lessB bs num).length + 1 : Nat) by rw [← HL.out, ← hN1]; exact hgt))
          rw [← HL.out, ← hN1] at EQ0
          have hbd : (N1 : Int) + byB (L ++ [((num : Int), Y)]) ≤ 1048576 := by
            have e1 : byB (L ++ [((num : Int), Y)]) = byB L + Y.length := by rw [byB_append]; rfl
            have hbo := okC_byB HOK.out
            rw [e1]; push_cast; omega
          have CL2 : Hid _ := fun w' h' => l3Less_any U z a7 N1 c7 (L ++ [((num : Int), Y)]) 0 w' h' hbd
          clear hN1 hbd
          go_wp2_with fail
          refine Calls.mono (CL2.out _ (RowB.read HQG.out)) ?_
          rintro e w9 ⟨v9, rfl, hr9, hb9⟩
          rw [← EQ0.out] at hr9
          obtain ⟨fa, fc, rfl, -, -⟩ := hr9.shape
          obtain ⟨X, hX⟩ : ∃ X, X = ftQ z bs num Y := ⟨_, rfl⟩
          rw [← hX] at hr9 ⊢
          have EQ := hid hX.symm
          clear hX CL2 EQ0
          have ob9 : Blk w9 w5.heap.size #[.int .i64 U, .int .i64 z, .slice a7 N1 c7] 26 := (hb9.block _ (Blk.lt OB8.out)).trans OB8.out
          have rb9 : Blk w9 (w.heap.size + 1) #[.int .i64 0, .int .i64 0, .slice none 0 0] 26 := (hb9.block _ (Blk.lt RB8.out)).trans RB8.out
          have f0 := ob9.frozen 0
          have f1 := ob9.frozen 1
          have f2 := ob9.frozen 2
          have q0 := ob9.cell 0
          have q1 := ob9.cell 1
          have q2 := ob9.cell 2
          simp at q0 q1 q2
          have hz9 := hb9.size
          have obG := ((ob9.set (i := 0) (.int .i64 U)).set (i := 1) (.int .i64 z)).set (i := 2) (.slice fa X.length fc)
          have rbG := ((rb9.other (i := 0) (B' := w5.heap.size) (by omega) (.int .i64 U)).other (i := 1) (B' := w5.heap.size) (by omega) (.int .i64 z)).other (i := 2) (B' := w5.heap.size) (by omega) (.slice fa X.length fc)
          have hg9 : w9.grownBy (((w9.setCell ⟨w5.heap.size, 0, none⟩ (.int .i64 U)).setCell ⟨w5.heap.size, 1, none⟩ (.int .i64 z)).setCell ⟨w5.heap.size, 2, none⟩ (.slice fa X.length fc)) (some w5.heap.size) := grownT (grownT (set_grown _ _ _ _) (set_grown _ _ _ _)) (set_grown _ _ _ _)
          have hyG := RowI.chg (RowI.below HYG.out hb9) (Chg.one hg9) (.inl (by omega))
          have hqG := RowB.apart hr9 ob9 (by decide) (by decide) hg9
          have bG := below_chg (B8.out.trans (hb9.mono (by omega))) (Chg.one hg9) (by omega) (by omega)
          have hGs : (((w9.setCell ⟨w5.heap.size, 0, none⟩ (.int .i64 U)).setCell ⟨w5.heap.size, 1, none⟩ (.int .i64 z)).setCell ⟨w5.heap.size, 2, none⟩ (.slice fa X.length fc)).heap.size = w9.heap.size := by simp [World.setCell]
          rw [← hGs] at hqG hz9
          simp at obG
          clear HYG HQG CB8 RB8 OB8 B8 rb9 hr9 hb9 hg9 x0 x1 y0 y1 y2
          have HYG := hid (show RowI .u8 5 _ (w.heap.size + 3) w4.heap.size (.slice ya Y.length yc) Y.length Y from hyG)
          have HQG := hid (show RowB 93 5 _ _ _ (.slice fa X.length fc) X.length X from hqG)
          have OBG := hid (show Blk _ _ #[.int .i64 U, .int .i64 z, .slice fa X.length fc] _ from obG)
          have RBG := hid (show Blk _ _ _ _ from rbG)
          have BG := hid bG
          clear hyG hqG obG rbG bG ob9
          go_wp2_with fail
          clear hGs
          generalize ((w9.setCell ⟨w5.heap.size, 0, none⟩ (.int .i64 U)).setCell ⟨w5.heap.size, 1, none⟩ (.int .i64 z)).setCell ⟨w5.heap.size, 2, none⟩ (.slice fa X.length fc) = G2 at HYG HQG OBG RBG BG hz9 ⊢
          clear f0 f1 f2 q0 q1 q2
          have obG := OBG.out
          have rbG := RBG.out
          have bG := BG.out
          have hGz : w4.heap.size ≤ G2.heap.size := by omega
          have d0 := rbG.cell 0
          have d1 := rbG.cell 1
          have d2 := rbG.cell 2
          have df0 := rbG.frozen 0
          have df1 := rbG.frozen 1
          have df2 := rbG.frozen 2
          have o0 := obG.cell 0
          have o1 := obG.cell 1
          have o2 := obG.cell 2
          simp at d0 d1 d2 o0 o1 o2
          have hgs : ∀ x y q, G2.grownBy (((G2.setCell ⟨w.heap.size + 1, 0, none⟩ x).setCell ⟨w.heap.size + 1, 1, none⟩ y).setCell ⟨w.heap.size + 1, 2, none⟩ q) (some (w.heap.size + 1)) := fun x y q => grownT (grownT (set_grown _ _ _ _) (set_grown _ _ _ _)) (set_grown _ _ _ _)
          have HGS := hid hgs
          clear obG rbG hgs
          go_region
          go_wp2
          refine bodyPost_ret (v := .tuple #[.slice ya Y.length yc, .agg #[.int .i64 U, .int .i64 z, .slice fa X.length fc]]) (by simp [results, Try.results56, go_sem, d0, d1, d2]) rfl ⟨.slice ya Y.length yc, .slice fa X.length fc, rfl, ?_, ?_, ?_⟩
          · have hq := RowI.below (RowI.chg HYG.out (Chg.one (HGS.out (.int .i64 U) (.int .i64 z) (.slice fa X.length fc))) (.inr (by omega))) ((Below.refl _ _).drew)
            rw [← HY.out]
            first | exact hq.mono (by omega) (by simpa [World.setCell] using hGz) | (rw [hY0]; exact hq.mono (by omega) (by simpa [World.setCell] using hGz))
          · have hq := RowB.below (RowB.chg HQG.out (Chg.one (HGS.out (.int .i64 U) (.int .i64 z) (.slice fa X.length fc))) (.inr (by omega))) ((Below.refl _ _).drew)
            rw [← HY.out, EQ.out]
            exact hq.mono (by omega) (by simp [World.setCell])
          · exact (((bG.setCell (by simp) _).setCell (by simp) _).setCell (by simp) _).drew
        · have EQ := hid (ftQ_just (num := (num : Int)) hYn (show ¬ z < ((lessB bs num).length + 1 : Nat) by rw [← HL.out, ← hN1]; exact hgt))
          rw [← HL.out] at EQ
          have hXl : (L ++ [((num : Int), Y)]).length = N1 := by rw [hN1]; simp
          have obG := OB8.out
          have rbG := RB8.out
          have bG := B8.out
          have hGz : w4.heap.size ≤ G.heap.size := by omega
          clear hN1 CB8 RB8 OB8
          rw [← hXl] at HQG
          have HQG' := HQG
          clear HQG
          rw [hXl] at HQG'
          have HXL := hid hXl
          clear hXl
          go_wp2_with fail
          clear x0 x1 y0 y1 y2
          have d0 := rbG.cell 0
          have d1 := rbG.cell 1
          have d2 := rbG.cell 2
          have df0 := rbG.frozen 0
          have df1 := rbG.frozen 1
          have df2 := rbG.frozen 2
          have o0 := obG.cell 0
          have o1 := obG.cell 1
          have o2 := obG.cell 2
          simp at d0 d1 d2 o0 o1 o2
          have hgs : ∀ x y q, G.grownBy (((G.setCell ⟨w.heap.size + 1, 0, none⟩ x).setCell ⟨w.heap.size + 1, 1, none⟩ y).setCell ⟨w.heap.size + 1, 2, none⟩ q) (some (w.heap.size + 1)) := fun x y q => grownT (grownT (set_grown _ _ _ _) (set_grown _ _ _ _)) (set_grown _ _ _ _)
          have HGS := hid hgs
          clear obG rbG hgs
          go_region
          go_wp2
          refine bodyPost_ret (v := .tuple #[.slice ya Y.length yc, .agg #[.int .i64 U, .int .i64 z, .slice a7 N1 c7]]) (by simp [results, Try.results56, go_sem, d0, d1, d2]) rfl ⟨.slice ya Y.length yc, .slice a7 N1 c7, rfl, ?_, ?_, ?_⟩
          · have hq := RowI.below (RowI.chg HYG.out (Chg.one (HGS.out (.int .i64 U) (.int .i64 z) (.slice a7 N1 c7))) (.inr (by omega))) ((Below.refl _ _).drew)
            rw [← HY.out]
            first | exact hq.mono (by omega) (by simpa [World.setCell] using hGz) | (rw [hY0]; exact hq.mono (by omega) (by simpa [World.setCell] using hGz))
          · have hq := RowB.below (RowB.chg HQG'.out (Chg.one (HGS.out (.int .i64 U) (.int .i64 z) (.slice a7 N1 c7))) (.inr (by omega))) ((Below.refl _ _).drew)
            rw [← HY.out, EQ.out, HXL.out]
            exact hq.mono (by omega) (by simp [World.setCell])
          · exact (((bG.setCell (by simp) _).setCell (by simp) _).setCell (by simp) _).drew
      · go_simp
        refine Calls.mono (CC.out _ (by exact HR.out)) ?_
        rintro e' v' ⟨v2', rfl, hrow2, hv'⟩
        obtain ⟨a2, c2, rfl, -, -⟩ := hrow2.shape
        have o2C : W6.drew.cell? ⟨w5.heap.size, 2, none⟩ = some (.slice la L.length lc) := o2V
        have ltC : w5.heap.size < W6.drew.heap.size := by show w5.heap.size < W6.heap.size; omega
        refine hK.out _ _ ⟨⟨_, cell_later hv' o2C⟩, (hv'.frozen (p := ⟨w5.heap.size, 2, none⟩) ltC).trans hS.2⟩ (fun hS => ?_)
        clear hK K
        have o2D := cell_later hv' o2C
        have ltD : w5.heap.size < v'.heap.size := Nat.lt_of_lt_of_le ltC hv'.size
        clear o2C ltC
        (try simp only [Act.put, List.getElem_toArray, List.getElem_cons_zero, List.getElem_cons_succ, List.setIfInBounds_toArray, List.set_cons_zero, List.set_cons_succ])
        refine wpAnyH_take (i := 5) (v := (.agg #[.int .i64 num, .slice a2 Y.length c2])) rfl (by as_aux_lemma => kernel_rfl) (by as_aux_lemma => kernel_rfl) (by as_aux_lemma => kernel_rfl) (fun _ _ _ h => h) (Or.inl ⟨by kernel_rfl, ?_⟩) hS ?_
        · intro w hSw; (try dsimp only at hSw); go_simp
        simp only [Act.put, List.getElem_toArray, List.getElem_cons_zero, List.getElem_cons_succ, List.setIfInBounds_toArray, List.set_cons_zero, List.set_cons_succ]
        refine wpAnyH_ready (rs := [1, 6]) (by as_aux_lemma => kernel_rfl) (by simp) ?_
        refine AllReadyH.cons rfl (fun K hK => ?_) (AllReadyH.cons rfl (fun K hK => ?_) AllReadyH.nil)
        · go_simp
          refine hK.out _ _ hS (fun hS => ?_)
          clear hK K
          (try simp only [Act.put, List.getElem_toArray, List.getElem_cons_zero, List.getElem_cons_succ, List.setIfInBounds_toArray, List.set_cons_zero, List.set_cons_succ])
          refine wpAnyH_ready (rs := [6]) (by as_aux_lemma => kernel_rfl) (by simp) ?_
          refine AllReadyH.cons rfl (fun K hK => ?_) AllReadyH.nil
          go_simp
          have o2C := o2D
          have ltC := ltD
          have hbN : Below v'.heap.size v' (v'.alloc (Obj.cells #[Value.int .i64 num, Value.slice a2 Y.length c2] 93)) := (Below.refl _ _).alloc (Nat.le_refl _) _
          refine hK.out _ _ ⟨⟨_, cell_later hbN o2C⟩, (hbN.frozen (p := ⟨w5.heap.size, 2, none⟩) ltC).trans hS.2⟩ (fun hS => ?_)
          clear hK K
          have o2F := cell_later hbN o2C
          have ltF : w5.heap.size < (v'.alloc (Obj.cells #[Value.int .i64 num, Value.slice a2 Y.length c2] 93)).heap.size := Nat.lt_of_lt_of_le ltC hbN.size
          (try simp only [Act.put, List.getElem_toArray, List.getElem_cons_zero, List.getElem_cons_succ, List.setIfInBounds_toArray, List.set_cons_zero, List.set_cons_succ])
          have hoF : RowB 93 5 (v'.alloc (Obj.cells #[Value.int .i64 num, Value.slice a2 Y.length c2] 93)) w4.heap.size w5.heap.size (.slice la L.length lc) L.length L := (RowB.below HO.out hv').below hbN
          have hrF : RowI .u8 5 (v'.alloc (Obj.cells #[Value.int .i64 num, Value.slice a2 Y.length c2] 93)) W6.drew.heap.size v'.heap.size (.slice a2 Y.length c2) Y.length Y := hrow2.below hbN
          have hvz := hv'.size
          have hzd : W6.drew.heap.size = W6.heap.size := rfl
          have hup : ∀ g, (Value.slice la L.length lc).ownBlock = some g → g < w5.heap.size := by
            obtain ⟨us, q1, q2, q3, q4⟩ := hoF
            exact q1.2
          obtain ⟨us, hus⟩ : ∃ us : List Bv, (v'.alloc (Obj.cells #[Value.int .i64 num, Value.slice a2 Y.length c2] 93)).ownsRow w4.heap.size 93 2 (.slice la L.length lc) L.length (us.flatMap bkE) := by
            obtain ⟨us, q1, q2, q3, q4⟩ := hoF
            exact ⟨us, q1.1.2⟩
          have hcl : ∀ j q, (bkE ((num : Int), .slice a2 Y.length c2))[j]? = some q → (v'.alloc (Obj.cells #[Value.int .i64 num, Value.slice a2 Y.length c2] 93)).cell? ((⟨v'.heap.size, 0, none⟩ : Addr).add j) = some q := fun j q hq => by
            rw [Addr.add_lit, Nat.zero_add, World.cell?_alloc_at _ _ _ _ rfl]
            simpa [bkE] using hq
          have hFz : (v'.alloc (Obj.cells #[Value.int .i64 num, Value.slice a2 Y.length c2] 93)).heap.size = v'.heap.size + 1 := by simp
          have hVF : Below W6.heap.size W6 (v'.alloc (Obj.cells #[Value.int .i64 num, Value.slice a2 Y.length c2] 93)) := Below.trans (b := W6.drew) (by exact (Below.refl W6.heap.size W6).drew) (hv'.trans (hbN.mono hv'.size))
          have hb0F : Below w.heap.size w (v'.alloc (Obj.cells #[Value.int .i64 num, Value.slice a2 Y.length c2] 93)) := B6.out.trans (hVF.mono (by omega))
          have obF : Blk _ w5.heap.size #[.int .i64 U, .int .i64 z, .slice la L.length lc] 26 := (hVF.block _ (Blk.lt OB6.out)).trans OB6.out
          have cbF : Blk _ w.heap.size #[.int .i64 U, .int .i64 z, .slice a n ca] 26 := (hVF.block _ (Blk.lt CB6.out)).trans CB6.out
          have rbF : Blk _ (w.heap.size + 1) #[.int .i64 0, .int .i64 0, .slice none 0 0] 26 := (hVF.block _ (Blk.lt RB6.out)).trans RB6.out
          have hyF : RowI .u8 5 (v'.alloc (Obj.cells #[Value.int .i64 num, Value.slice a2 Y.length c2] 93)) (w.heap.size + 3) w4.heap.size (.slice ya Y.length yc) Y.length Y := RowI.below HY6.out hVF
          have HOF : Hid _ := hoF
          have HRF : Hid _ := hrF
          have HUS : Hid _ := hus
          have HYF : Hid _ := hyF
          have OBF := hid (show Blk _ _ _ _ from obF)
          have CBF := hid (show Blk _ _ _ _ from cbF)
          have RBF := hid (show Blk _ _ _ _ from rbF)
          have HCL : Hid _ := hcl
          generalize hFe : (v'.alloc (Obj.cells #[Value.int .i64 num, Value.slice a2 Y.length c2] 93)) = F at HOF HRF HUS HYF OBF CBF RBF HCL hb0F hFz hS o2F ltF ⊢
          clear hFe hoF hrF hus hcl obF cbF rbF hyF hVF hbN
          refine wpAnyH_ready (rs := [7]) (by as_aux_lemma => kernel_rfl) (by simp) ?_
          refine AllReadyH.cons rfl (fun K hK => ?_) AllReadyH.nil
          rw [if_pos (by rfl)]
          refine wp_append_own _ _ _ 24 rfl w4.heap.size 93 i0 (.agg #[.int .i64 0, .slice none 0 0]) 2 32 Try.underlying24 hi hz0 hz1 hz2 rfl (by decide) _ L.length (us.flatMap bkE) rfl HUS.out ⟨v'.heap.size, 0, none⟩ 1 1 (bkE ((num : Int), .slice a2 Y.length c2)) rfl rfl HCL.out (bkE_one num a2 Y.length c2) (by unfold maxLen; omega) (by omega) (by omega) ?_
          intro v7 w7 ho7 hg7 _
          have lo7 := World.ownsRow.lt HUS.out
          have hsn := RowB.snoc (num := num) bu_ne HOF.out HRF.out (by omega) (by omega) (by omega) (fun us' h' => by rw [ownsRow_same h' HUS.out]; exact ho7) hg7
          have hneq : ∀ B, B < w4.heap.size ∨ w5.heap.size ≤ B → some B ≠ (Value.slice la L.length lc).ownBlock := fun B hB hq => by have q1 := (lo7 B hq.symm).1; have q2 := hup B hq.symm; omega
          have ob7 := Blk.kept OBF.out hg7 (hneq _ (by omega))
          have cb7 := Blk.kept CBF.out hg7 (hneq _ (by omega))
          have rb7 := Blk.kept RBF.out hg7 (hneq _ (by omega))
          have b7 : Below w.heap.size w w7 := hb0F.grown hg7 (by omega) (fun j hj => by have := (lo7 j hj).1; omega)
          have hC7 : Chg w4.heap.size F.heap.size F w7 := Chg.of_grown hg7 (fun j hj => ⟨(lo7 j hj).1, (lo7 j hj).2⟩)
          have hy7 := RowI.chg HYF.out hC7 (.inl (by omega))
          obtain ⟨a7, c7, hv7, -, -⟩ := hsn.shape
          subst hv7
          have hz7 : w5.heap.size + 1 ≤ w7.heap.size := by have := hg7.size; omega
          have x2 := ob7.cell 2
          have xf2 := ob7.frozen 2
          simp at x2
          refine hK.out _ _ ⟨⟨_, x2⟩, xf2⟩ (fun hS => ?_)
          clear hK K
          (try simp only [Act.put, List.getElem_toArray, List.getElem_cons_zero, List.getElem_cons_succ, List.setIfInBounds_toArray, List.set_cons_zero, List.set_cons_succ])
          refine wpAnyH_take (i := 8) (v := (.pointer (some ⟨w5.heap.size, 2, none⟩))) rfl (by as_aux_lemma => kernel_rfl) (by as_aux_lemma => kernel_rfl) (by as_aux_lemma => kernel_rfl) (fun _ _ _ h => h) (Or.inl ⟨by kernel_rfl, ?_⟩) hS ?_
          · intro w hSw; (try dsimp only at hSw); go_simp
          simp only [Act.put, List.getElem_toArray, List.getElem_cons_zero, List.getElem_cons_succ, List.setIfInBounds_toArray, List.set_cons_zero, List.set_cons_succ]
          refine wpAnyH_ready (rs := [9]) (by as_aux_lemma => kernel_rfl) (by simp) ?_
          refine AllReadyH.cons rfl (fun K hK => ?_) AllReadyH.nil
          go_simp
          have ob8 := ob7.set (i := 2) (.slice a7 (L.length + 1) c7)
          refine hK.out _ _ ⟨⟨_, by simpa using ob8.cell 2⟩, ob8.frozen 2⟩ (fun hS => ?_)
          clear hK K
          refine wpAnyH_done (by kernel_rfl) ?_ _
          clear hS
          have cb8 := cb7.other (i := 2) (B' := w5.heap.size) (by omega) (.slice a7 (L.length + 1) c7)
          have rb8 := rb7.other (i := 2) (B' := w5.heap.size) (by omega) (.slice a7 (L.length + 1) c7)
          have hr8 := RowB.apart hsn ob7 (by decide) (by decide) (set_grown w7 w5.heap.size 2 (.slice a7 (L.length + 1) c7))
          have hy8 := RowI.chg hy7 (Chg.one (set_grown w7 w5.heap.size 2 (.slice a7 (L.length + 1) c7))) (.inl (by omega))
          have b8 := below_chg b7 (Chg.one (set_grown w7 w5.heap.size 2 (.slice a7 (L.length + 1) c7))) (by omega) (by omega)
          have hz8 : (w7.setCell ⟨w5.heap.size, 2, none⟩ (.slice a7 (L.length + 1) c7)).heap.size = w7.heap.size := by simp [World.setCell]
          rw [← hz8] at hr8 hz7
          obtain ⟨N1, hN1⟩ : ∃ N1, N1 = L.length + 1 := ⟨_, rfl⟩
          rw [← hN1] at ob8 cb8 rb8 hr8 hy8 b8 hz8 hz7 ⊢
          simp at ob8
          have HYG := hid (show RowI .u8 5 _ (w.heap.size + 3) w4.heap.size (.slice ya Y.length yc) Y.length Y from hy8)
          have HQG := hid (show RowB 93 5 _ w4.heap.size _ (.slice a7 N1 c7) N1 (L ++ [((num : Int), Y)]) from hr8)
          have CB8 := hid (show Blk _ _ _ _ from cb8)
          have RB8 := hid (show Blk _ _ _ _ from rb8)
          have OB8 := hid (show Blk _ _ #[.int .i64 U, .int .i64 z, .slice a7 N1 c7] _ from ob8)
          have B8 := hid b8
          clear cb8 rb8 ob8 hr8 hy8 b8 cb7 rb7 ob7 hsn hg7 ho7 hy7 hC7 HOF HRF HUS HYF OBF CBF RBF HCL hz8 x2 xf2 o2F ltF o2D ltD b7 hb0F lo7 hneq hup
          generalize w7.setCell ⟨w5.heap.size, 2, none⟩ (.slice a7 N1 c7) = G at HYG HQG CB8 RB8 OB8 B8 hz7 ⊢
          have x0 := CB8.out.cell 0
          have x1 := CB8.out.cell 1
          have y0 := OB8.out.cell 0
          have y1 := OB8.out.cell 1
          have y2 := OB8.out.cell 2
          simp at x0 x1 y0 y1 y2
          have hYn : ¬ Y.length = 0 := hY0
          by_cases hgt : z < (N1 : Int)
          · have EQ0 := hid (ftQ_more (num := (num : Int)) hYn (show z < ((lessB bs num).length + 1 : Nat) by rw [← HL.out, ← hN1]; exact hgt))
            rw [← HL.out, ← hN1] at EQ0
            have hbd : (N1 : Int) + byB (L ++ [((num : Int), Y)]) ≤ 1048576 := by
              have e1 : byB (L ++ [((num : Int), Y)]) = byB L + Y.length := by rw [byB_append]; rfl
              have hbo := okC_byB HOK.out
              rw [e1]; push_cast; omega
            have CL2 : Hid _ := fun w' h' => l3Less_any U z a7 N1 c7 (L ++ [((num : Int), Y)]) 0 w' h' hbd
            clear hN1 hbd
            go_wp2_with fail
            refine Calls.mono (CL2.out _ (RowB.read HQG.out)) ?_
            rintro e w9 ⟨v9, rfl, hr9, hb9⟩
            rw [← EQ0.out] at hr9
            obtain ⟨fa, fc, rfl, -, -⟩ := hr9.shape
            obtain ⟨X, hX⟩ : ∃ X, X = ftQ z bs num Y := ⟨_, rfl⟩
            rw [← hX] at hr9 ⊢
            have EQ := hid hX.symm
            clear hX CL2 EQ0
            have ob9 : Blk w9 w5.heap.size #[.int .i64 U, .int .i64 z, .slice a7 N1 c7] 26 := (hb9.block _ (Blk.lt OB8.out)).trans OB8.out
            have rb9 : Blk w9 (w.heap.size + 1) #[.int .i64 0, .int .i64 0, .slice none 0 0] 26 := (hb9.block _ (Blk.lt RB8.out)).trans RB8.out
            have f0 := ob9.frozen 0
            have f1 := ob9.frozen 1
            have f2 := ob9.frozen 2
            have q0 := ob9.cell 0
            have q1 := ob9.cell 1
            have q2 := ob9.cell 2
            simp at q0 q1 q2
            have hz9 := hb9.size
            have obG := ((ob9.set (i := 0) (.int .i64 U)).set (i := 1) (.int .i64 z)).set (i := 2) (.slice fa X.length fc)
            have rbG := ((rb9.other (i := 0) (B' := w5.heap.size) (by omega) (.int .i64 U)).other (i := 1) (B' := w5.heap.size) (by omega) (.int .i64 z)).other (i := 2) (B' := w5.heap.size) (by omega) (.slice fa X.length fc)
            have hg9 : w9.grownBy (((w9.setCell ⟨w5.heap.size, 0, none⟩ (.int .i64 U)).setCell ⟨w5.heap.size, 1, none⟩ (.int .i64 z)).setCell ⟨w5.heap.size, 2, none⟩ (.slice fa X.length fc)) (some w5.heap.size) := grownT (grownT (set_grown _ _ _ _) (set_grown _ _ _ _)) (set_grown _ _ _ _)
            have hyG := RowI.chg (RowI.below HYG.out hb9) (Chg.one hg9) (.inl (by omega))
            have hqG := RowB.apart hr9 ob9 (by decide) (by decide) hg9
            have bG := below_chg (B8.out.trans (hb9.mono (by omega))) (Chg.one hg9) (by omega) (by omega)
            have hGs : (((w9.setCell ⟨w5.heap.size, 0, none⟩ (.int .i64 U)).setCell ⟨w5.heap.size, 1, none⟩ (.int .i64 z)).setCell ⟨w5.heap.size, 2, none⟩ (.slice fa X.length fc)).heap.size = w9.heap.size := by simp [World.setCell]
            rw [← hGs] at hqG hz9
            simp at obG
            clear HYG HQG CB8 RB8 OB8 B8 rb9 hr9 hb9 hg9 x0 x1 y0 y1 y2
            have HYG := hid (show RowI .u8 5 _ (w.heap.size + 3) w4.heap.size (.slice ya Y.length yc) Y.length Y from hyG)
            have HQG := hid (show RowB 93 5 _ _ _ (.slice fa X.length fc) X.length X from hqG)
            have OBG := hid (show Blk _ _ #[.int .i64 U, .int .i64 z, .slice fa X.length fc] _ from obG)
            have RBG := hid (show Blk _ _ _ _ from rbG)
            have BG := hid bG
            clear hyG hqG obG rbG bG ob9
            go_wp2_with fail
            clear hGs
            generalize ((w9.setCell ⟨w5.heap.size, 0, none⟩ (.int .i64 U)).setCell ⟨w5.heap.size, 1, none⟩ (.int .i64 z)).setCell ⟨w5.heap.size, 2, none⟩ (.slice fa X.length fc) = G2 at HYG HQG OBG RBG BG hz9 ⊢
            clear f0 f1 f2 q0 q1 q2
            have obG := OBG.out
            have rbG := RBG.out
            have bG := BG.out
            have hGz : w4.heap.size ≤ G2.heap.size := by omega
            have d0 := rbG.cell 0
            have d1 := rbG.cell 1
            have d2 := rbG.cell 2
            have df0 := rbG.frozen 0
            have df1 := rbG.frozen 1
            have df2 := rbG.frozen 2
            have o0 := obG.cell 0
            have o1 := obG.cell 1
            have o2 := obG.cell 2
            simp at d0 d1 d2 o0 o1 o2
            have hgs : ∀ x y q, G2.grownBy (((G2.setCell ⟨w.heap.size + 1, 0, none⟩ x).setCell ⟨w.heap.size + 1, 1, none⟩ y).setCell ⟨w.heap.size + 1, 2, none⟩ q) (some (w.heap.size + 1)) := fun x y q => grownT (grownT (set_grown _ _ _ _) (set_grown _ _ _ _)) (set_grown _ _ _ _)
            have HGS := hid hgs
            clear obG rbG hgs
            go_region
            go_wp2
            refine bodyPost_ret (v := .tuple #[.slice ya Y.length yc, .agg #[.int .i64 U, .int .i64 z, .slice fa X.length fc]]) (by simp [results, Try.results56, go_sem, d0, d1, d2]) rfl ⟨.slice ya Y.length yc, .slice fa X.length fc, rfl, ?_, ?_, ?_⟩
            · have hq := RowI.below (RowI.chg HYG.out (Chg.one (HGS.out (.int .i64 U) (.int .i64 z) (.slice fa X.length fc))) (.inr (by omega))) ((Below.refl _ _).drew)
              rw [← HY.out]
              first | exact hq.mono (by omega) (by simpa [World.setCell] using hGz) | (rw [hY0]; exact hq.mono (by omega) (by simpa [World.setCell] using hGz))
            · have hq := RowB.below (RowB.chg HQG.out (Chg.one (HGS.out (.int .i64 U) (.int .i64 z) (.slice fa X.length fc))) (.inr (by omega))) ((Below.refl _ _).drew)
              rw [← HY.out, EQ.out]
              exact hq.mono (by omega) (by simp [World.setCell])
            · exact (((bG.setCell (by simp) _).setCell (by simp) _).setCell (by simp) _).drew
          · have EQ := hid (ftQ_just (num := (num : Int)) hYn (show ¬ z < ((lessB bs num).length + 1 : Nat) by rw [← HL.out, ← hN1]; exact hgt))
            rw [← HL.out] at EQ
            have hXl : (L ++ [((num : Int), Y)]).length = N1 := by rw [hN1]; simp
            have obG := OB8.out
            have rbG := RB8.out
            have bG := B8.out
            have hGz : w4.heap.size ≤ G.heap.size := by omega
            clear hN1 CB8 RB8 OB8
            rw [← hXl] at HQG
            have HQG' := HQG
            clear HQG
            rw [hXl] at HQG'
            have HXL := hid hXl
            clear hXl
            go_wp2_with fail
            clear x0 x1 y0 y1 y2
            have d0 := rbG.cell 0
            have d1 := rbG.cell 1
            have d2 := rbG.cell 2
            have df0 := rbG.frozen 0
            have df1 := rbG.frozen 1
            have df2 := rbG.frozen 2
            have o0 := obG.cell 0
            have o1 := obG.cell 1
            have o2 := obG.cell 2
            simp at d0 d1 d2 o0 o1 o2
            have hgs : ∀ x y q, G.grownBy (((G.setCell ⟨w.heap.size + 1, 0, none⟩ x).setCell ⟨w.heap.size + 1, 1, none⟩ y).setCell ⟨w.heap.size + 1, 2, none⟩ q) (some (w.heap.size + 1)) := fun x y q => grownT (grownT (set_grown _ _ _ _) (set_grown _ _ _ _)) (set_grown _ _ _ _)
            have HGS := hid hgs
            clear obG rbG hgs
            go_region
            go_wp2
            refine bodyPost_ret (v := .tuple #[.slice ya Y.length yc, .agg #[.int .i64 U, .int .i64 z, .slice a7 N1 c7]]) (by simp [results, Try.results56, go_sem, d0, d1, d2]) rfl ⟨.slice ya Y.length yc, .slice a7 N1 c7, rfl, ?_, ?_, ?_⟩
            · have hq := RowI.below (RowI.chg HYG.out (Chg.one (HGS.out (.int .i64 U) (.int .i64 z) (.slice a7 N1 c7))) (.inr (by omega))) ((Below.refl _ _).drew)
              rw [← HY.out]
              first | exact hq.mono (by omega) (by simpa [World.setCell] using hGz) | (rw [hY0]; exact hq.mono (by omega) (by simpa [World.setCell] using hGz))
            · have hq := RowB.below (RowB.chg HQG'.out (Chg.one (HGS.out (.int .i64 U) (.int .i64 z) (.slice a7 N1 c7))) (.inr (by omega))) ((Below.refl _ _).drew)
              rw [← HY.out, EQ.out, HXL.out]
              exact hq.mono (by omega) (by simp [World.setCell])
            · exact (((bG.setCell (by simp) _).setCell (by simp) _).setCell (by simp) _).drew
        · go_simp
          have o2C := o2D
          have ltC := ltD
          have hbN : Below v'.heap.size v' (v'.alloc (Obj.cells #[Value.int .i64 num, Value.slice a2 Y.length c2] 93)) := (Below.refl _ _).alloc (Nat.le_refl _) _
          refine hK.out _ _ ⟨⟨_, cell_later hbN o2C⟩, (hbN.frozen (p := ⟨w5.heap.size, 2, none⟩) ltC).trans hS.2⟩ (fun hS => ?_)
          clear hK K
          have o2F := cell_later hbN o2C
          have ltF : w5.heap.size < (v'.alloc (Obj.cells #[Value.int .i64 num, Value.slice a2 Y.length c2] 93)).heap.size := Nat.lt_of_lt_of_le ltC hbN.size
          (try simp only [Act.put, List.getElem_toArray, List.getElem_cons_zero, List.getElem_cons_succ, List.setIfInBounds_toArray, List.set_cons_zero, List.set_cons_succ])
          refine wpAnyH_ready (rs := [1]) (by as_aux_lemma => kernel_rfl) (by simp) ?_
          refine AllReadyH.cons rfl (fun K hK => ?_) AllReadyH.nil
          go_simp
          refine hK.out _ _ hS (fun hS => ?_)
          clear hK K
          (try simp only [Act.put, List.getElem_toArray, List.getElem_cons_zero, List.getElem_cons_succ, List.setIfInBounds_toArray, List.set_cons_zero, List.set_cons_succ])
          have hoF : RowB 93 5 (v'.alloc (Obj.cells #[Value.int .i64 num, Value.slice a2 Y.length c2] 93)) w4.heap.size w5.heap.size (.slice la L.length lc) L.length L := (RowB.below HO.out hv').below hbN
          have hrF : RowI .u8 5 (v'.alloc (Obj.cells #[Value.int .i64 num, Value.slice a2 Y.length c2] 93)) W6.drew.heap.size v'.heap.size (.slice a2 Y.length c2) Y.length Y := hrow2.below hbN
          have hvz := hv'.size
          have hzd : W6.drew.heap.size = W6.heap.size := rfl
          have hup : ∀ g, (Value.slice la L.length lc).ownBlock = some g → g < w5.heap.size := by
            obtain ⟨us, q1, q2, q3, q4⟩ := hoF
            exact q1.2
          obtain ⟨us, hus⟩ : ∃ us : List Bv, (v'.alloc (Obj.cells #[Value.int .i64 num, Value.slice a2 Y.length c2] 93)).ownsRow w4.heap.size 93 2 (.slice la L.length lc) L.length (us.flatMap bkE) := by
            obtain ⟨us, q1, q2, q3, q4⟩ := hoF
            exact ⟨us, q1.1.2⟩
          have hcl : ∀ j q, (bkE ((num : Int), .slice a2 Y.length c2))[j]? = some q → (v'.alloc (Obj.cells #[Value.int .i64 num, Value.slice a2 Y.length c2] 93)).cell? ((⟨v'.heap.size, 0, none⟩ : Addr).add j) = some q := fun j q hq => by
            rw [Addr.add_lit, Nat.zero_add, World.cell?_alloc_at _ _ _ _ rfl]
            simpa [bkE] using hq
          have hFz : (v'.alloc (Obj.cells #[Value.int .i64 num, Value.slice a2 Y.length c2] 93)).heap.size = v'.heap.size + 1 := by simp
          have hVF : Below W6.heap.size W6 (v'.alloc (Obj.cells #[Value.int .i64 num, Value.slice a2 Y.length c2] 93)) := Below.trans (b := W6.drew) (by exact (Below.refl W6.heap.size W6).drew) (hv'.trans (hbN.mono hv'.size))
          have hb0F : Below w.heap.size w (v'.alloc (Obj.cells #[Value.int .i64 num, Value.slice a2 Y.length c2] 93)) := B6.out.trans (hVF.mono (by omega))
          have obF : Blk _ w5.heap.size #[.int .i64 U, .int .i64 z, .slice la L.length lc] 26 := (hVF.block _ (Blk.lt OB6.out)).trans OB6.out
          have cbF : Blk _ w.heap.size #[.int .i64 U, .int .i64 z, .slice a n ca] 26 := (hVF.block _ (Blk.lt CB6.out)).trans CB6.out
          have rbF : Blk _ (w.heap.size + 1) #[.int .i64 0, .int .i64 0, .slice none 0 0] 26 := (hVF.block _ (Blk.lt RB6.out)).trans RB6.out
          have hyF : RowI .u8 5 (v'.alloc (Obj.cells #[Value.int .i64 num, Value.slice a2 Y.length c2] 93)) (w.heap.size + 3) w4.heap.size (.slice ya Y.length yc) Y.length Y := RowI.below HY6.out hVF
          have HOF : Hid _ := hoF
          have HRF : Hid _ := hrF
          have HUS : Hid _ := hus
          have HYF : Hid _ := hyF
          have OBF := hid (show Blk _ _ _ _ from obF)
          have CBF := hid (show Blk _ _ _ _ from cbF)
          have RBF := hid (show Blk _ _ _ _ from rbF)
          have HCL : Hid _ := hcl
          generalize hFe : (v'.alloc (Obj.cells #[Value.int .i64 num, Value.slice a2 Y.length c2] 93)) = F at HOF HRF HUS HYF OBF CBF RBF HCL hb0F hFz hS o2F ltF ⊢
          clear hFe hoF hrF hus hcl obF cbF rbF hyF hVF hbN
          refine wpAnyH_ready (rs := [7]) (by as_aux_lemma => kernel_rfl) (by simp) ?_
          refine AllReadyH.cons rfl (fun K hK => ?_) AllReadyH.nil
          rw [if_pos (by rfl)]
          refine wp_append_own _ _ _ 24 rfl w4.heap.size 93 i0 (.agg #[.int .i64 0, .slice none 0 0]) 2 32 Try.underlying24 hi hz0 hz1 hz2 rfl (by decide) _ L.length (us.flatMap bkE) rfl HUS.out ⟨v'.heap.size, 0, none⟩ 1 1 (bkE ((num : Int), .slice a2 Y.length c2)) rfl rfl HCL.out (bkE_one num a2 Y.length c2) (by unfold maxLen; omega) (by omega) (by omega) ?_
          intro v7 w7 ho7 hg7 _
          have lo7 := World.ownsRow.lt HUS.out
          have hsn := RowB.snoc (num := num) bu_ne HOF.out HRF.out (by omega) (by omega) (by omega) (fun us' h' => by rw [ownsRow_same h' HUS.out]; exact ho7) hg7
          have hneq : ∀ B, B < w4.heap.size ∨ w5.heap.size ≤ B → some B ≠ (Value.slice la L.length lc).ownBlock := fun B hB hq => by have q1 := (lo7 B hq.symm).1; have q2 := hup B hq.symm; omega
          have ob7 := Blk.kept OBF.out hg7 (hneq _ (by omega))
          have cb7 := Blk.kept CBF.out hg7 (hneq _ (by omega))
          have rb7 := Blk.kept RBF.out hg7 (hneq _ (by omega))
          have b7 : Below w.heap.size w w7 := hb0F.grown hg7 (by omega) (fun j hj => by have := (lo7 j hj).1; omega)
          have hC7 : Chg w4.heap.size F.heap.size F w7 := Chg.of_grown hg7 (fun j hj => ⟨(lo7 j hj).1, (lo7 j hj).2⟩)
          have hy7 := RowI.chg HYF.out hC7 (.inl (by omega))
          obtain ⟨a7, c7, hv7, -, -⟩ := hsn.shape
          subst hv7
          have hz7 : w5.heap.size + 1 ≤ w7.heap.size := by have := hg7.size; omega
          have x2 := ob7.cell 2
          have xf2 := ob7.frozen 2
          simp at x2
          refine hK.out _ _ ⟨⟨_, x2⟩, xf2⟩ (fun hS => ?_)
          clear hK K
          (try simp only [Act.put, List.getElem_toArray, List.getElem_cons_zero, List.getElem_cons_succ, List.setIfInBounds_toArray, List.set_cons_zero, List.set_cons_succ])
          refine wpAnyH_take (i := 8) (v := (.pointer (some ⟨w5.heap.size, 2, none⟩))) rfl (by as_aux_lemma => kernel_rfl) (by as_aux_lemma => kernel_rfl) (by as_aux_lemma => kernel_rfl) (fun _ _ _ h => h) (Or.inl ⟨by kernel_rfl, ?_⟩) hS ?_
          · intro w hSw; (try dsimp only at hSw); go_simp
          simp only [Act.put, List.getElem_toArray, List.getElem_cons_zero, List.getElem_cons_succ, List.setIfInBounds_toArray, List.set_cons_zero, List.set_cons_succ]
          refine wpAnyH_ready (rs := [9]) (by as_aux_lemma => kernel_rfl) (by simp) ?_
          refine AllReadyH.cons rfl (fun K hK => ?_) AllReadyH.nil
          go_simp
          have ob8 := ob7.set (i := 2) (.slice a7 (L.length + 1) c7)
          refine hK.out _ _ ⟨⟨_, by simpa using ob8.cell 2⟩, ob8.frozen 2⟩ (fun hS => ?_)
          clear hK K
          refine wpAnyH_done (by kernel_rfl) ?_ _
          clear hS
          have cb8 := cb7.other (i := 2) (B' := w5.heap.size) (by omega) (.slice a7 (L.length + 1) c7)
          have rb8 := rb7.other (i := 2) (B' := w5.heap.size) (by omega) (.slice a7 (L.length + 1) c7)
          have hr8 := RowB.apart hsn ob7 (by decide) (by decide) (set_grown w7 w5.heap.size 2 (.slice a7 (L.length + 1) c7))
          have hy8 := RowI.chg hy7 (Chg.one (set_grown w7 w5.heap.size 2 (.slice a7 (L.length + 1) c7))) (.inl (by omega))
          have b8 := below_chg b7 (Chg.one (set_grown w7 w5.heap.size 2 (.slice a7 (L.length + 1) c7))) (by omega) (by omega)
          have hz8 : (w7.setCell ⟨w5.heap.size, 2, none⟩ (.slice a7 (L.length + 1) c7)).heap.size = w7.heap.size := by simp [World.setCell]
          rw [← hz8] at hr8 hz7
          obtain ⟨N1, hN1⟩ : ∃ N1, N1 = L.length + 1 := ⟨_, rfl⟩
          rw [← hN1] at ob8 cb8 rb8 hr8 hy8 b8 hz8 hz7 ⊢
          simp at ob8
          have HYG := hid (show RowI .u8 5 _ (w.heap.size + 3) w4.heap.size (.slice ya Y.length yc) Y.length Y from hy8)
          have HQG := hid (show RowB 93 5 _ w4.heap.size _ (.slice a7 N1 c7) N1 (L ++ [((num : Int), Y)]) from hr8)
          have CB8 := hid (show Blk _ _ _ _ from cb8)
          have RB8 := hid (show Blk _ _ _ _ from rb8)
          have OB8 := hid (show Blk _ _ #[.int .i64 U, .int .i64 z, .slice a7 N1 c7] _ from ob8)
          have B8 := hid b8
          clear cb8 rb8 ob8 hr8 hy8 b8 cb7 rb7 ob7 hsn hg7 ho7 hy7 hC7 HOF HRF HUS HYF OBF CBF RBF HCL hz8 x2 xf2 o2F ltF o2D ltD b7 hb0F lo7 hneq hup
          generalize w7.setCell ⟨w5.heap.size, 2, none⟩ (.slice a7 N1 c7) = G at HYG HQG CB8 RB8 OB8 B8 hz7 ⊢
          have x0 := CB8.out.cell 0
          have x1 := CB8.out.cell 1
          have y0 := OB8.out.cell 0
          have y1 := OB8.out.cell 1
          have y2 := OB8.out.cell 2
          simp at x0 x1 y0 y1 y2
          have hYn : ¬ Y.length = 0 := hY0
          by_cases hgt : z < (N1 : Int)
          · have EQ0 := hid (ftQ_more (num := (num : Int)) hYn (show z < ((lessB bs num).length + 1 : Nat) by rw [← HL.out, ← hN1]; exact hgt))
            rw [← HL.out, ← hN1] at EQ0
            have hbd : (N1 : Int) + byB (L ++ [((num : Int), Y)]) ≤ 1048576 := by
              have e1 : byB (L ++ [((num : Int), Y)]) = byB L + Y.length := by rw [byB_append]; rfl
              have hbo := okC_byB HOK.out
              rw [e1]; push_cast; omega
            have CL2 : Hid _ := fun w' h' => l3Less_any U z a7 N1 c7 (L ++ [((num : Int), Y)]) 0 w' h' hbd
            clear hN1 hbd
            go_wp2_with fail
            refine Calls.mono (CL2.out _ (RowB.read HQG.out)) ?_
            rintro e w9 ⟨v9, rfl, hr9, hb9⟩
            rw [← EQ0.out] at hr9
            obtain ⟨fa, fc, rfl, -, -⟩ := hr9.shape
            obtain ⟨X, hX⟩ : ∃ X, X = ftQ z bs num Y := ⟨_, rfl⟩
            rw [← hX] at hr9 ⊢
            have EQ := hid hX.symm
            clear hX CL2 EQ0
            have ob9 : Blk w9 w5.heap.size #[.int .i64 U, .int .i64 z, .slice a7 N1 c7] 26 := (hb9.block _ (Blk.lt OB8.out)).trans OB8.out
            have rb9 : Blk w9 (w.heap.size + 1) #[.int .i64 0, .int .i64 0, .slice none 0 0] 26 := (hb9.block _ (Blk.lt RB8.out)).trans RB8.out
            have f0 := ob9.frozen 0
            have f1 := ob9.frozen 1
            have f2 := ob9.frozen 2
            have q0 := ob9.cell 0
            have q1 := ob9.cell 1
            have q2 := ob9.cell 2
            simp at q0 q1 q2
            have hz9 := hb9.size
            have obG := ((ob9.set (i := 0) (.int .i64 U)).set (i := 1) (.int .i64 z)).set (i := 2) (.slice fa X.length fc)
            have rbG := ((rb9.other (i := 0) (B' := w5.heap.size) (by omega) (.int .i64 U)).other (i := 1) (B' := w5.heap.size) (by omega) (.int .i64 z)).other (i := 2) (B' := w5.heap.size) (by omega) (.slice fa X.length fc)
            have hg9 : w9.grownBy (((w9.setCell ⟨w5.heap.size, 0, none⟩ (.int .i64 U)).setCell ⟨w5.heap.size, 1, none⟩ (.int .i64 z)).setCell ⟨w5.heap.size, 2, none⟩ (.slice fa X.length fc)) (some w5.heap.size) := grownT (grownT (set_grown _ _ _ _) (set_grown _ _ _ _)) (set_grown _ _ _ _)
            have hyG := RowI.chg (RowI.below HYG.out hb9) (Chg.one hg9) (.inl (by omega))
            have hqG := RowB.apart hr9 ob9 (by decide) (by decide) hg9
            have bG := below_chg (B8.out.trans (hb9.mono (by omega))) (Chg.one hg9) (by omega) (by omega)
            have hGs : (((w9.setCell ⟨w5.heap.size, 0, none⟩ (.int .i64 U)).setCell ⟨w5.heap.size, 1, none⟩ (.int .i64 z)).setCell ⟨w5.heap.size, 2, none⟩ (.slice fa X.length fc)).heap.size = w9.heap.size := by simp [World.setCell]
            rw [← hGs] at hqG hz9
            simp at obG
            clear HYG HQG CB8 RB8 OB8 B8 rb9 hr9 hb9 hg9 x0 x1 y0 y1 y2
            have HYG := hid (show RowI .u8 5 _ (w.heap.size + 3) w4.heap.size (.slice ya Y.length yc) Y.length Y from hyG)
            have HQG := hid (show RowB 93 5 _ _ _ (.slice fa X.length fc) X.length X from hqG)
            have OBG := hid (show Blk _ _ #[.int .i64 U, .int .i64 z, .slice fa X.length fc] _ from obG)
            have RBG := hid (show Blk _ _ _ _ from rbG)
            have BG := hid bG
            clear hyG hqG obG rbG bG ob9
            go_wp2_with fail
            clear hGs
            generalize ((w9.setCell ⟨w5.heap.size, 0, none⟩ (.int .i64 U)).setCell ⟨w5.heap.size, 1, none⟩ (.int .i64 z)).setCell ⟨w5.heap.size, 2, none⟩ (.slice fa X.length fc) = G2 at HYG HQG OBG RBG BG hz9 ⊢
            clear f0 f1 f2 q0 q1 q2
            have obG := OBG.out
            have rbG := RBG.out
            have bG := BG.out
            have hGz : w4.heap.size ≤ G2.heap.size := by omega
            have d0 := rbG.cell 0
            have d1 := rbG.cell 1
            have d2 := rbG.cell 2
            have df0 := rbG.frozen 0
            have df1 := rbG.frozen 1
            have df2 := rbG.frozen 2
            have o0 := obG.cell 0
            have o1 := obG.cell 1
            have o2 := obG.cell 2
            simp at d0 d1 d2 o0 o1 o2
            have hgs : ∀ x y q, G2.grownBy (((G2.setCell ⟨w.heap.size + 1, 0, none⟩ x).setCell ⟨w.heap.size + 1, 1, none⟩ y).setCell ⟨w.heap.size + 1, 2, none⟩ q) (some (w.heap.size + 1)) := fun x y q => grownT (grownT (set_grown _ _ _ _) (set_grown _ _ _ _)) (set_grown _ _ _ _)
            have HGS := hid hgs
            clear obG rbG hgs
            go_region
            go_wp2
            refine bodyPost_ret (v := .tuple #[.slice ya Y.length yc, .agg #[.int .i64 U, .int .i64 z, .slice fa X.length fc]]) (by simp [results, Try.results56, go_sem, d0, d1, d2]) rfl ⟨.slice ya Y.length yc, .slice fa X.length fc, rfl, ?_, ?_, ?_⟩
            · have hq := RowI.below (RowI.chg HYG.out (Chg.one (HGS.out (.int .i64 U) (.int .i64 z) (.slice fa X.length fc))) (.inr (by omega))) ((Below.refl _ _).drew)
              rw [← HY.out]
              first | exact hq.mono (by omega) (by simpa [World.setCell] using hGz) | (rw [hY0]; exact hq.mono (by omega) (by simpa [World.setCell] using hGz))
            · have hq := RowB.below (RowB.chg HQG.out (Chg.one (HGS.out (.int .i64 U) (.int .i64 z) (.slice fa X.length fc))) (.inr (by omega))) ((Below.refl _ _).drew)
              rw [← HY.out, EQ.out]
              exact hq.mono (by omega) (by simp [World.setCell])
            · exact (((bG.setCell (by simp) _).setCell (by simp) _).setCell (by simp) _).drew
          · have EQ := hid (ftQ_just (num := (num : Int)) hYn (show ¬ z < ((lessB bs num).length + 1 : Nat) by rw [← HL.out, ← hN1]; exact hgt))
            rw [← HL.out] at EQ
            have hXl : (L ++ [((num : Int), Y)]).length = N1 := by rw [hN1]; simp
            have obG := OB8.out
            have rbG := RB8.out
            have bG := B8.out
            have hGz : w4.heap.size ≤ G.heap.size := by omega
            clear hN1 CB8 RB8 OB8
            rw [← hXl] at HQG
            have HQG' := HQG
            clear HQG
            rw [hXl] at HQG'
            have HXL := hid hXl
            clear hXl
            go_wp2_with fail
            clear x0 x1 y0 y1 y2
            have d0 := rbG.cell 0
            have d1 := rbG.cell 1
            have d2 := rbG.cell 2
            have df0 := rbG.frozen 0
            have df1 := rbG.frozen 1
            have df2 := rbG.frozen 2
            have o0 := obG.cell 0
            have o1 := obG.cell 1
            have o2 := obG.cell 2
            simp at d0 d1 d2 o0 o1 o2
            have hgs : ∀ x y q, G.grownBy (((G.setCell ⟨w.heap.size + 1, 0, none⟩ x).setCell ⟨w.heap.size + 1, 1, none⟩ y).setCell ⟨w.heap.size + 1, 2, none⟩ q) (some (w.heap.size + 1)) := fun x y q => grownT (grownT (set_grown _ _ _ _) (set_grown _ _ _ _)) (set_grown _ _ _ _)
            have HGS := hid hgs
            clear obG rbG hgs
            go_region
            go_wp2
            refine bodyPost_ret (v := .tuple #[.slice ya Y.length yc, .agg #[.int .i64 U, .int .i64 z, .slice a7 N1 c7]]) (by simp [results, Try.results56, go_sem, d0, d1, d2]) rfl ⟨.slice ya Y.length yc, .slice a7 N1 c7, rfl, ?_, ?_, ?_⟩
            · have hq := RowI.below (RowI.chg HYG.out (Chg.one (HGS.out (.int .i64 U) (.int .i64 z) (.slice a7 N1 c7))) (.inr (by omega))) ((Below.refl _ _).drew)
              rw [← HY.out]
              first | exact hq.mono (by omega) (by simpa [World.setCell] using hGz) | (rw [hY0]; exact hq.mono (by omega) (by simpa [World.setCell] using hGz))
            · have hq := RowB.below (RowB.chg HQG'.out (Chg.one (HGS.out (.int .i64 U) (.int .i64 z) (.slice a7 N1 c7))) (.inr (by omega))) ((Below.refl _ _).drew)
              rw [← HY.out, EQ.out, HXL.out]
              exact hq.mono (by omega) (by simp [World.setCell])
            · exact (((bG.setCell (by simp) _).setCell (by simp) _).setCell (by simp) _).drew
  · rw [at1]
    have hin : i < n := by omega
    obtain ⟨blk, off, num', a', c', ys', rfl, hx', e0, e1, hr, -, -⟩ := (HA.out.below b0).at hin
    obtain ⟨rfl, rfl⟩ : (num : Int) = num' ∧ ys = ys' := by
      rw [hx] at hx'
      simpa using hx'
    have hlx := byB_at hx
    have CC : Hid _ := fun w' h' => l1Copy_any a' ys.length c' ys w' h' (by omega)
    have hA0 : Below w2.heap.size w2 (w2.alloc (Obj.cells #[] 5)) := (Below.refl w2.heap.size w2).alloc (Nat.le_refl _) _
    have hA : Below w.heap.size w (w2.alloc (Obj.cells #[] 5)) := b0.trans (hA0.mono (by omega))
    have e1A : (w2.alloc (Obj.cells #[] 5)).cell? ⟨blk, off + i * 2 + 1, none⟩ = some (.slice a' ys.length c') := cell_later hA0 e1
    clear hx hx'
    go_wp2_with fail
    refine Calls.mono (CC.out _ (hr.below hA0)) ?_
    rintro e w4 ⟨v4, rfl, hy4, hb4⟩
    have hYe : ys = Y := by rw [HY.out, at4]
    rw [hYe] at hy4
    have hy1' : 1 ≤ Y.length := by rw [← hYe]; exact hy1
    clear CC e0 e1 e1A hr hYe
    obtain ⟨ya, yc, rfl, -, -⟩ := hy4.shape
    have hsA : (w2.alloc (Obj.cells #[] 5)).heap.size = w.heap.size + 3 := by simp [hz2']
    have b4 : Below w.heap.size w w4 := hA.trans (hb4.mono (by omega))
    have hz4 : w.heap.size + 3 ≤ w4.heap.size := by have := hb4.size; omega
    have hAA : Below w2.heap.size w2 w4 := ((Below.refl w2.heap.size w2).alloc (Nat.le_refl _) _).trans (hb4.mono (by simp))
    have cb4 : Blk w4 w.heap.size #[.int .i64 U, .int .i64 z, .slice (some ⟨blk, off, none⟩) n ca] 26 := (hAA.block _ (Blk.lt CB.out)).trans CB.out
    have rb4 : Blk w4 (w.heap.size + 1) #[.int .i64 0, .int .i64 0, .slice none 0 0] 26 := (hAA.block _ (Blk.lt RB.out)).trans RB.out
    rw [hsA] at hy4
    have HY4 := hid hy4
    have CB4 := hid cb4
    have RB4 := hid rb4
    have HB4 := hid b4
    have c0 := cb4.cell 0
    have c1 := cb4.cell 1
    have c2 := cb4.cell 2
    simp at c0 c1 c2
    have CLs : Hid _ := fun w' h' => l3Less_any U z (some ⟨blk, off, none⟩) n ca bs (i : Int) w' h' h1
    clear hy4 cb4 rb4 b4 hb4 hA hAA CB RB g0 g1 g2 b0
    go_wp2_with fail
    refine Calls.mono (CLs.out _ (HA.out.below HB4.out)) ?_
    rintro e w5 ⟨v5, rfl, hro5, hb5⟩
    rw [← hlen, at2, ← HL.out] at hro5
    obtain ⟨la, lc, rfl, -, -⟩ := hro5.shape
    have hz5 : w4.heap.size ≤ w5.heap.size := hb5.size
    have n5 : Below w5.heap.size w5 (w5.alloc (Obj.cells #[Value.int .i64 U, Value.int .i64 z, Value.slice la L.length lc] 26)) := (Below.refl _ _).alloc (Nat.le_refl _) _
    have n45 := hb5.trans (n5.mono hz5)
    have cb6 : Blk _ w.heap.size #[.int .i64 U, .int .i64 z, .slice (some ⟨blk, off, none⟩) n ca] 26 := (n45.block _ (Blk.lt CB4.out)).trans CB4.out
    have rb6 : Blk _ (w.heap.size + 1) #[.int .i64 0, .int .i64 0, .slice none 0 0] 26 := (n45.block _ (Blk.lt RB4.out)).trans RB4.out
    have ob6 := Blk.new w5 #[.int .i64 U, .int .i64 z, .slice la L.length lc] 26
    have b6 : Below w.heap.size w (w5.alloc (Obj.cells #[Value.int .i64 U, Value.int .i64 z, Value.slice la L.length lc] 26)) := HB4.out.trans (n45.mono (by omega))
    have hy6 := RowI.below HY4.out n45
    have hl6 := RowB.below hro5 n5
    have hz6' : (w5.alloc (Obj.cells #[Value.int .i64 U, Value.int .i64 z, Value.slice la L.length lc] 26)).heap.size = w5.heap.size + 1 := by simp
    obtain ⟨W6, hW6⟩ : ∃ W6, W6 = w5.alloc (Obj.cells #[Value.int .i64 U, Value.int .i64 z, Value.slice la L.length lc] 26) := ⟨_, rfl⟩
    rw [← hW6] at cb6 rb6 ob6 b6 hy6 hl6 hz6'
    obtain ⟨OB, hOB⟩ : ∃ OB, OB = w5.heap.size := ⟨_, rfl⟩
    have HOB := hid hOB
    clear n5 n45 CB4 RB4 HB4 HY4 hro5 hb5 CLs c0 c1 c2
    have HY6 := hid hy6
    have HL6 := hid hl6
    have CB6 := hid cb6
    have RB6 := hid rb6
    have OB6 := hid ob6
    have B6 := hid b6
    clear hy6 hl6 cb6 rb6 ob6 b6
    by_cases hY0 : Y.length = 0
    · exact absurd hY0 (by omega)
    · have hY0' : 0 < Y.length := by omega
      go_wp2_with fail
      rw [← hW6]
      clear hW6
      have obV := OB6.out
      have o2V := obV.cell 2
      have of2V := obV.frozen 2
      simp at o2V
      have hdr : Below W6.heap.size W6 W6.drew := (Below.refl _ _).drew
      have HR : Hid (Rd .u8 W6.drew ya Y.length Y) := (RowI.below HY6.out hdr).1.read
      have HO : Hid (RowB 93 5 W6.drew w4.heap.size w5.heap.size (.slice la L.length lc) L.length L) := RowB.below HL6.out hdr
      have CC : Hid _ := fun w' h' => l1Copy_any ya Y.length yc Y w' h' (by omega)
      clear obV hdr
      refine wp_region_held_drew (S := fun w' => (∃ q, w'.cell? ⟨w5.heap.size, 2, none⟩ = some q) ∧ w'.frozen? ⟨w5.heap.size, 2, none⟩ = false) (by kernel_rfl) (by exact ⟨⟨_, o2V⟩, of2V⟩) (fun hS => ?_)
      refine wpAnyH_take (i := 0) (v := (.pointer (some ⟨w5.heap.size, 2, none⟩))) rfl (by as_aux_lemma => kernel_rfl) (by as_aux_lemma => kernel_rfl) (by as_aux_lemma => kernel_rfl) (fun _ _ _ h => h) (Or.inl ⟨by kernel_rfl, ?_⟩) hS ?_
      · intro w hSw; (try dsimp only at hSw); go_simp
      simp only [Act.put, List.getElem_toArray, List.getElem_cons_zero, List.getElem_cons_succ, List.setIfInBounds_toArray, List.set_cons_zero, List.set_cons_succ]
      refine wpAnyH_take (i := 2) (v := (.int .i64 (num : Int))) rfl (by as_aux_lemma => kernel_rfl) (by as_aux_lemma => kernel_rfl) (by as_aux_lemma => kernel_rfl) (fun _ _ _ h => h) (Or.inl ⟨by kernel_rfl, ?_⟩) hS ?_
      · intro w hSw; (try dsimp only at hSw); go_simp
      simp only [Act.put, List.getElem_toArray, List.getElem_cons_zero, List.getElem_cons_succ, List.setIfInBounds_toArray, List.set_cons_zero, List.set_cons_succ]
      refine wpAnyH_take (i := 3) (v := (.slice ya Y.length yc)) rfl (by as_aux_lemma => kernel_rfl) (by as_aux_lemma => kernel_rfl) (by as_aux_lemma => kernel_rfl) (fun _ _ _ h => h) (Or.inl ⟨by kernel_rfl, ?_⟩) hS ?_
      · intro w hSw; (try dsimp only at hSw); go_simp
      simp only [Act.put, List.getElem_toArray, List.getElem_cons_zero, List.getElem_cons_succ, List.setIfInBounds_toArray, List.set_cons_zero, List.set_cons_succ]
      refine wpAnyH_ready (rs := [1, 4]) (by as_aux_lemma => kernel_rfl) (by simp) ?_
      refine AllReadyH.cons rfl (fun K hK => ?_) (AllReadyH.cons rfl (fun K hK => ?_) AllReadyH.nil)
      · go_simp
        refine hK.out _ _ hS (fun hS => ?_)
        clear hK K
        (try simp only [Act.put, List.getElem_toArray, List.getElem_cons_zero, List.getElem_cons_succ, List.setIfInBounds_toArray, List.set_cons_zero, List.set_cons_succ])
        refine wpAnyH_ready (rs := [4]) (by as_aux_lemma => kernel_rfl) (by simp) ?_
        refine AllReadyH.cons rfl (fun K hK => ?_) AllReadyH.nil
        go_simp
        refine Calls.mono (CC.out _ (by exact HR.out)) ?_
        rintro e' v' ⟨v2', rfl, hrow2, hv'⟩
        obtain ⟨a2, c2, rfl, -, -⟩ := hrow2.shape
        have o2C : W6.drew.cell? ⟨w5.heap.size, 2, none⟩ = some (.slice la L.length lc) := o2V
        have ltC : w5.heap.size < W6.drew.heap.size := by show w5.heap.size < W6.heap.size; omega
        refine hK.out _ _ ⟨⟨_, cell_later hv' o2C⟩, (hv'.frozen (p := ⟨w5.heap.size, 2, none⟩) ltC).trans hS.2⟩ (fun hS => ?_)
        clear hK K
        have o2D := cell_later hv' o2C
        have ltD : w5.heap.size < v'.heap.size := Nat.lt_of_lt_of_le ltC hv'.size
        clear o2C ltC
        (try simp only [Act.put, List.getElem_toArray, List.getElem_cons_zero, List.getElem_cons_succ, List.setIfInBounds_toArray, List.set_cons_zero, List.set_cons_succ])
        refine wpAnyH_take (i := 5) (v := (.agg #[.int .i64 num, .slice a2 Y.length c2])) rfl (by as_aux_lemma => kernel_rfl) (by as_aux_lemma => kernel_rfl) (by as_aux_lemma => kernel_rfl) (fun _ _ _ h => h) (Or.inl ⟨by kernel_rfl, ?_⟩) hS ?_
        · intro w hSw; (try dsimp only at hSw); go_simp
        simp only [Act.put, List.getElem_toArray, List.getElem_cons_zero, List.getElem_cons_succ, List.setIfInBounds_toArray, List.set_cons_zero, List.set_cons_succ]
        refine wpAnyH_ready (rs := [6]) (by as_aux_lemma => kernel_rfl) (by simp) ?_
        refine AllReadyH.cons rfl (fun K hK => ?_) AllReadyH.nil
        go_simp
        have o2C := o2D
        have ltC := ltD
        have hbN : Below v'.heap.size v' (v'.alloc (Obj.cells #[Value.int .i64 num, Value.slice a2 Y.length c2] 93)) := (Below.refl _ _).alloc (Nat.le_refl _) _
        refine hK.out _ _ ⟨⟨_, cell_later hbN o2C⟩, (hbN.frozen (p := ⟨w5.heap.size, 2, none⟩) ltC).trans hS.2⟩ (fun hS => ?_)
        clear hK K
        have o2F := cell_later hbN o2C
        have ltF : w5.heap.size < (v'.alloc (Obj.cells #[Value.int .i64 num, Value.slice a2 Y.length c2] 93)).heap.size := Nat.lt_of_lt_of_le ltC hbN.size
        (try simp only [Act.put, List.getElem_toArray, List.getElem_cons_zero, List.getElem_cons_succ, List.setIfInBounds_toArray, List.set_cons_zero, List.set_cons_succ])
        have hoF : RowB 93 5 (v'.alloc (Obj.cells #[Value.int .i64 num, Value.slice a2 Y.length c2] 93)) w4.heap.size w5.heap.size (.slice la L.length lc) L.length L := (RowB.below HO.out hv').below hbN
        have hrF : RowI .u8 5 (v'.alloc (Obj.cells #[Value.int .i64 num, Value.slice a2 Y.length c2] 93)) W6.drew.heap.size v'.heap.size (.slice a2 Y.length c2) Y.length Y := hrow2.below hbN
        have hvz := hv'.size
        have hzd : W6.drew.heap.size = W6.heap.size := rfl
        have hup : ∀ g, (Value.slice la L.length lc).ownBlock = some g → g < w5.heap.size := by
          obtain ⟨us, q1, q2, q3, q4⟩ := hoF
          exact q1.2
        obtain ⟨us, hus⟩ : ∃ us : List Bv, (v'.alloc (Obj.cells #[Value.int .i64 num, Value.slice a2 Y.length c2] 93)).ownsRow w4.heap.size 93 2 (.slice la L.length lc) L.length (us.flatMap bkE) := by
          obtain ⟨us, q1, q2, q3, q4⟩ := hoF
          exact ⟨us, q1.1.2⟩
        have hcl : ∀ j q, (bkE ((num : Int), .slice a2 Y.length c2))[j]? = some q → (v'.alloc (Obj.cells #[Value.int .i64 num, Value.slice a2 Y.length c2] 93)).cell? ((⟨v'.heap.size, 0, none⟩ : Addr).add j) = some q := fun j q hq => by
          rw [Addr.add_lit, Nat.zero_add, World.cell?_alloc_at _ _ _ _ rfl]
          simpa [bkE] using hq
        have hFz : (v'.alloc (Obj.cells #[Value.int .i64 num, Value.slice a2 Y.length c2] 93)).heap.size = v'.heap.size + 1 := by simp
        have hVF : Below W6.heap.size W6 (v'.alloc (Obj.cells #[Value.int .i64 num, Value.slice a2 Y.length c2] 93)) := Below.trans (b := W6.drew) (by exact (Below.refl W6.heap.size W6).drew) (hv'.trans (hbN.mono hv'.size))
        have hb0F : Below w.heap.size w (v'.alloc (Obj.cells #[Value.int .i64 num, Value.slice a2 Y.length c2] 93)) := B6.out.trans (hVF.mono (by omega))
        have obF : Blk _ w5.heap.size #[.int .i64 U, .int .i64 z, .slice la L.length lc] 26 := (hVF.block _ (Blk.lt OB6.out)).trans OB6.out
        have cbF : Blk _ w.heap.size #[.int .i64 U, .int .i64 z, .slice (some ⟨blk, off, none⟩) n ca] 26 := (hVF.block _ (Blk.lt CB6.out)).trans CB6.out
        have rbF : Blk _ (w.heap.size + 1) #[.int .i64 0, .int .i64 0, .slice none 0 0] 26 := (hVF.block _ (Blk.lt RB6.out)).trans RB6.out
        have hyF : RowI .u8 5 (v'.alloc (Obj.cells #[Value.int .i64 num, Value.slice a2 Y.length c2] 93)) (w.heap.size + 3) w4.heap.size (.slice ya Y.length yc) Y.length Y := RowI.below HY6.out hVF
        have HOF : Hid _ := hoF
        have HRF : Hid _ := hrF
        have HUS : Hid _ := hus
        have HYF : Hid _ := hyF
        have OBF := hid (show Blk _ _ _ _ from obF)
        have CBF := hid (show Blk _ _ _ _ from cbF)
        have RBF := hid (show Blk _ _ _ _ from rbF)
        have HCL : Hid _ := hcl
        generalize hFe : (v'.alloc (Obj.cells #[Value.int .i64 num, Value.slice a2 Y.length c2] 93)) = F at HOF HRF HUS HYF OBF CBF RBF HCL hb0F hFz hS o2F ltF ⊢
        clear hFe hoF hrF hus hcl obF cbF rbF hyF hVF hbN
        refine wpAnyH_ready (rs := [7]) (by as_aux_lemma => kernel_rfl) (by simp) ?_
        refine AllReadyH.cons rfl (fun K hK => ?_) AllReadyH.nil
        rw [if_pos (by rfl)]
        refine wp_append_own _ _ _ 24 rfl w4.heap.size 93 i0 (.agg #[.int .i64 0, .slice none 0 0]) 2 32 Try.underlying24 hi hz0 hz1 hz2 rfl (by decide) _ L.length (us.flatMap bkE) rfl HUS.out ⟨v'.heap.size, 0, none⟩ 1 1 (bkE ((num : Int), .slice a2 Y.length c2)) rfl rfl HCL.out (bkE_one num a2 Y.length c2) (by unfold maxLen; omega) (by omega) (by omega) ?_
        intro v7 w7 ho7 hg7 _
        have lo7 := World.ownsRow.lt HUS.out
        have hsn := RowB.snoc (num := num) bu_ne HOF.out HRF.out (by omega) (by omega) (by omega) (fun us' h' => by rw [ownsRow_same h' HUS.out]; exact ho7) hg7
        have hneq : ∀ B, B < w4.heap.size ∨ w5.heap.size ≤ B → some B ≠ (Value.slice la L.length lc).ownBlock := fun B hB hq => by have q1 := (lo7 B hq.symm).1; have q2 := hup B hq.symm; omega
        have ob7 := Blk.kept OBF.out hg7 (hneq _ (by omega))
        have cb7 := Blk.kept CBF.out hg7 (hneq _ (by omega))
        have rb7 := Blk.kept RBF.out hg7 (hneq _ (by omega))
        have b7 : Below w.heap.size w w7 := hb0F.grown hg7 (by omega) (fun j hj => by have := (lo7 j hj).1; omega)
        have hC7 : Chg w4.heap.size F.heap.size F w7 := Chg.of_grown hg7 (fun j hj => ⟨(lo7 j hj).1, (lo7 j hj).2⟩)
        have hy7 := RowI.chg HYF.out hC7 (.inl (by omega))
        obtain ⟨a7, c7, hv7, -, -⟩ := hsn.shape
        subst hv7
        have hz7 : w5.heap.size + 1 ≤ w7.heap.size := by have := hg7.size; omega
        have x2 := ob7.cell 2
        have xf2 := ob7.frozen 2
        simp at x2
        refine hK.out _ _ ⟨⟨_, x2⟩, xf2⟩ (fun hS => ?_)
        clear hK K
        (try simp only [Act.put, List.getElem_toArray, List.getElem_cons_zero, List.getElem_cons_succ, List.setIfInBounds_toArray, List.set_cons_zero, List.set_cons_succ])
        refine wpAnyH_take (i := 8) (v := (.pointer (some ⟨w5.heap.size, 2, none⟩))) rfl (by as_aux_lemma => kernel_rfl) (by as_aux_lemma => kernel_rfl) (by as_aux_lemma => kernel_rfl) (fun _ _ _ h => h) (Or.inl ⟨by kernel_rfl, ?_⟩) hS ?_
        · intro w hSw; (try dsimp only at hSw); go_simp
        simp only [Act.put, List.getElem_toArray, List.getElem_cons_zero, List.getElem_cons_succ, List.setIfInBounds_toArray, List.set_cons_zero, List.set_cons_succ]
        refine wpAnyH_ready (rs := [9]) (by as_aux_lemma => kernel_rfl) (by simp) ?_
        refine AllReadyH.cons rfl (fun K hK => ?_) AllReadyH.nil
        go_simp
        have ob8 := ob7.set (i := 2) (.slice a7 (L.length + 1) c7)
        refine hK.out _ _ ⟨⟨_, by simpa using ob8.cell 2⟩, ob8.frozen 2⟩ (fun hS => ?_)
        clear hK K
        refine wpAnyH_done (by kernel_rfl) ?_ _
        clear hS
        have cb8 := cb7.other (i := 2) (B' := w5.heap.size) (by omega) (.slice a7 (L.length + 1) c7)
        have rb8 := rb7.other (i := 2) (B' := w5.heap.size) (by omega) (.slice a7 (L.length + 1) c7)
        have hr8 := RowB.apart hsn ob7 (by decide) (by decide) (set_grown w7 w5.heap.size 2 (.slice a7 (L.length + 1) c7))
        have hy8 := RowI.chg hy7 (Chg.one (set_grown w7 w5.heap.size 2 (.slice a7 (L.length + 1) c7))) (.inl (by omega))
        have b8 := below_chg b7 (Chg.one (set_grown w7 w5.heap.size 2 (.slice a7 (L.length + 1) c7))) (by omega) (by omega)
        have hz8 : (w7.setCell ⟨w5.heap.size, 2, none⟩ (.slice a7 (L.length + 1) c7)).heap.size = w7.heap.size := by simp [World.setCell]
        rw [← hz8] at hr8 hz7
        obtain ⟨N1, hN1⟩ : ∃ N1, N1 = L.length + 1 := ⟨_, rfl⟩
        rw [← hN1] at ob8 cb8 rb8 hr8 hy8 b8 hz8 hz7 ⊢
        simp at ob8
        have HYG := hid (show RowI .u8 5 _ (w.heap.size + 3) w4.heap.size (.slice ya Y.length yc) Y.length Y from hy8)
        have HQG := hid (show RowB 93 5 _ w4.heap.size _ (.slice a7 N1 c7) N1 (L ++ [((num : Int), Y)]) from hr8)
        have CB8 := hid (show Blk _ _ _ _ from cb8)
        have RB8 := hid (show Blk _ _ _ _ from rb8)
        have OB8 := hid (show Blk _ _ #[.int .i64 U, .int .i64 z, .slice a7 N1 c7] _ from ob8)
        have B8 := hid b8
        clear cb8 rb8 ob8 hr8 hy8 b8 cb7 rb7 ob7 hsn hg7 ho7 hy7 hC7 HOF HRF HUS HYF OBF CBF RBF HCL hz8 x2 xf2 o2F ltF o2D ltD b7 hb0F lo7 hneq hup
        generalize w7.setCell ⟨w5.heap.size, 2, none⟩ (.slice a7 N1 c7) = G at HYG HQG CB8 RB8 OB8 B8 hz7 ⊢
        have x0 := CB8.out.cell 0
        have x1 := CB8.out.cell 1
        have y0 := OB8.out.cell 0
        have y1 := OB8.out.cell 1
        have y2 := OB8.out.cell 2
        simp at x0 x1 y0 y1 y2
        have hYn : ¬ Y.length = 0 := hY0
        by_cases hgt : z < (N1 : Int)
        · have EQ0 := hid (ftQ_more (num := (num : Int)) hYn (show z < ((lessB bs num).length + 1 : Nat) by rw [← HL.out, ← hN1]; exact hgt))
          rw [← HL.out, ← hN1] at EQ0
          have hbd : (N1 : Int) + byB (L ++ [((num : Int), Y)]) ≤ 1048576 := by
            have e1 : byB (L ++ [((num : Int), Y)]) = byB L + Y.length := by rw [byB_append]; rfl
            have hbo := okC_byB HOK.out
            rw [e1]; push_cast; omega
          have CL2 : Hid _ := fun w' h' => l3Less_any U z a7 N1 c7 (L ++ [((num : Int), Y)]) 0 w' h' hbd
          clear hN1 hbd
          go_wp2_with fail
          refine Calls.mono (CL2.out _ (RowB.read HQG.out)) ?_
          rintro e w9 ⟨v9, rfl, hr9, hb9⟩
          rw [← EQ0.out] at hr9
          obtain ⟨fa, fc, rfl, -, -⟩ := hr9.shape
          obtain ⟨X, hX⟩ : ∃ X, X = ftQ z bs num Y := ⟨_, rfl⟩
          rw [← hX] at hr9 ⊢
          have EQ := hid hX.symm
          clear hX CL2 EQ0
          have ob9 : Blk w9 w5.heap.size #[.int .i64 U, .int .i64 z, .slice a7 N1 c7] 26 := (hb9.block _ (Blk.lt OB8.out)).trans OB8.out
          have rb9 : Blk w9 (w.heap.size + 1) #[.int .i64 0, .int .i64 0, .slice none 0 0] 26 := (hb9.block _ (Blk.lt RB8.out)).trans RB8.out
          have f0 := ob9.frozen 0
          have f1 := ob9.frozen 1
          have f2 := ob9.frozen 2
          have q0 := ob9.cell 0
          have q1 := ob9.cell 1
          have q2 := ob9.cell 2
          simp at q0 q1 q2
          have hz9 := hb9.size
          have obG := ((ob9.set (i := 0) (.int .i64 U)).set (i := 1) (.int .i64 z)).set (i := 2) (.slice fa X.length fc)
          have rbG := ((rb9.other (i := 0) (B' := w5.heap.size) (by omega) (.int .i64 U)).other (i := 1) (B' := w5.heap.size) (by omega) (.int .i64 z)).other (i := 2) (B' := w5.heap.size) (by omega) (.slice fa X.length fc)
          have hg9 : w9.grownBy (((w9.setCell ⟨w5.heap.size, 0, none⟩ (.int .i64 U)).setCell ⟨w5.heap.size, 1, none⟩ (.int .i64 z)).setCell ⟨w5.heap.size, 2, none⟩ (.slice fa X.length fc)) (some w5.heap.size) := grownT (grownT (set_grown _ _ _ _) (set_grown _ _ _ _)) (set_grown _ _ _ _)
          have hyG := RowI.chg (RowI.below HYG.out hb9) (Chg.one hg9) (.inl (by omega))
          have hqG := RowB.apart hr9 ob9 (by decide) (by decide) hg9
          have bG := below_chg (B8.out.trans (hb9.mono (by omega))) (Chg.one hg9) (by omega) (by omega)
          have hGs : (((w9.setCell ⟨w5.heap.size, 0, none⟩ (.int .i64 U)).setCell ⟨w5.heap.size, 1, none⟩ (.int .i64 z)).setCell ⟨w5.heap.size, 2, none⟩ (.slice fa X.length fc)).heap.size = w9.heap.size := by simp [World.setCell]
          rw [← hGs] at hqG hz9
          simp at obG
          clear HYG HQG CB8 RB8 OB8 B8 rb9 hr9 hb9 hg9 x0 x1 y0 y1 y2
          have HYG := hid (show RowI .u8 5 _ (w.heap.size + 3) w4.heap.size (.slice ya Y.length yc) Y.length Y from hyG)
          have HQG := hid (show RowB 93 5 _ _ _ (.slice fa X.length fc) X.length X from hqG)
          have OBG := hid (show Blk _ _ #[.int .i64 U, .int .i64 z, .slice fa X.length fc] _ from obG)
          have RBG := hid (show Blk _ _ _ _ from rbG)
          have BG := hid bG
          clear hyG hqG obG rbG bG ob9
          go_wp2_with fail
          clear hGs
          generalize ((w9.setCell ⟨w5.heap.size, 0, none⟩ (.int .i64 U)).setCell ⟨w5.heap.size, 1, none⟩ (.int .i64 z)).setCell ⟨w5.heap.size, 2, none⟩ (.slice fa X.length fc) = G2 at HYG HQG OBG RBG BG hz9 ⊢
          clear f0 f1 f2 q0 q1 q2
          have obG := OBG.out
          have rbG := RBG.out
          have bG := BG.out
          have hGz : w4.heap.size ≤ G2.heap.size := by omega
          have d0 := rbG.cell 0
          have d1 := rbG.cell 1
          have d2 := rbG.cell 2
          have df0 := rbG.frozen 0
          have df1 := rbG.frozen 1
          have df2 := rbG.frozen 2
          have o0 := obG.cell 0
          have o1 := obG.cell 1
          have o2 := obG.cell 2
          simp at d0 d1 d2 o0 o1 o2
          have hgs : ∀ x y q, G2.grownBy (((G2.setCell ⟨w.heap.size + 1, 0, none⟩ x).setCell ⟨w.heap.size + 1, 1, none⟩ y).setCell ⟨w.heap.size + 1, 2, none⟩ q) (some (w.heap.size + 1)) := fun x y q => grownT (grownT (set_grown _ _ _ _) (set_grown _ _ _ _)) (set_grown _ _ _ _)
          have HGS := hid hgs
          clear obG rbG hgs
          go_region
          go_wp2
          refine bodyPost_ret (v := .tuple #[.slice ya Y.length yc, .agg #[.int .i64 U, .int .i64 z, .slice fa X.length fc]]) (by simp [results, Try.results56, go_sem, d0, d1, d2]) rfl ⟨.slice ya Y.length yc, .slice fa X.length fc, rfl, ?_, ?_, ?_⟩
          · have hq := RowI.below (RowI.chg HYG.out (Chg.one (HGS.out (.int .i64 U) (.int .i64 z) (.slice fa X.length fc))) (.inr (by omega))) ((Below.refl _ _).drew)
            rw [← HY.out]
            first | exact hq.mono (by omega) (by simpa [World.setCell] using hGz) | (rw [hY0]; exact hq.mono (by omega) (by simpa [World.setCell] using hGz))
          · have hq := RowB.below (RowB.chg HQG.out (Chg.one (HGS.out (.int .i64 U) (.int .i64 z) (.slice fa X.length fc))) (.inr (by omega))) ((Below.refl _ _).drew)
            rw [← HY.out, EQ.out]
            exact hq.mono (by omega) (by simp [World.setCell])
          · exact (((bG.setCell (by simp) _).setCell (by simp) _).setCell (by simp) _).drew
        · have EQ := hid (ftQ_just (num := (num : Int)) hYn (show ¬ z < ((lessB bs num).length + 1 : Nat) by rw [← HL.out, ← hN1]; exact hgt))
          rw [← HL.out] at EQ
          have hXl : (L ++ [((num : Int), Y)]).length = N1 := by rw [hN1]; simp
          have obG := OB8.out
          have rbG := RB8.out
          have bG := B8.out
          have hGz : w4.heap.size ≤ G.heap.size := by omega
          clear hN1 CB8 RB8 OB8
          rw [← hXl] at HQG
          have HQG' := HQG
          clear HQG
          rw [hXl] at HQG'
          have HXL := hid hXl
          clear hXl
          go_wp2_with fail
          clear x0 x1 y0 y1 y2
          have d0 := rbG.cell 0
          have d1 := rbG.cell 1
          have d2 := rbG.cell 2
          have df0 := rbG.frozen 0
          have df1 := rbG.frozen 1
          have df2 := rbG.frozen 2
          have o0 := obG.cell 0
          have o1 := obG.cell 1
          have o2 := obG.cell 2
          simp at d0 d1 d2 o0 o1 o2
          have hgs : ∀ x y q, G.grownBy (((G.setCell ⟨w.heap.size + 1, 0, none⟩ x).setCell ⟨w.heap.size + 1, 1, none⟩ y).setCell ⟨w.heap.size + 1, 2, none⟩ q) (some (w.heap.size + 1)) := fun x y q => grownT (grownT (set_grown _ _ _ _) (set_grown _ _ _ _)) (set_grown _ _ _ _)
          have HGS := hid hgs
          clear obG rbG hgs
          go_region
          go_wp2
          refine bodyPost_ret (v := .tuple #[.slice ya Y.length yc, .agg #[.int .i64 U, .int .i64 z, .slice a7 N1 c7]]) (by simp [results, Try.results56, go_sem, d0, d1, d2]) rfl ⟨.slice ya Y.length yc, .slice a7 N1 c7, rfl, ?_, ?_, ?_⟩
          · have hq := RowI.below (RowI.chg HYG.out (Chg.one (HGS.out (.int .i64 U) (.int .i64 z) (.slice a7 N1 c7))) (.inr (by omega))) ((Below.refl _ _).drew)
            rw [← HY.out]
            first | exact hq.mono (by omega) (by simpa [World.setCell] using hGz) | (rw [hY0]; exact hq.mono (by omega) (by simpa [World.setCell] using hGz))
          · have hq := RowB.below (RowB.chg HQG'.out (Chg.one (HGS.out (.int .i64 U) (.int .i64 z) (.slice a7 N1 c7))) (.inr (by omega))) ((Below.refl _ _).drew)
            rw [← HY.out, EQ.out, HXL.out]
            exact hq.mono (by omega) (by simp [World.setCell])
          · exact (((bG.setCell (by simp) _).setCell (by simp) _).setCell (by simp) _).drew
      · go_simp
        refine Calls.mono (CC.out _ (by exact HR.out)) ?_
        rintro e' v' ⟨v2', rfl, hrow2, hv'⟩
        obtain ⟨a2, c2, rfl, -, -⟩ := hrow2.shape
        have o2C : W6.drew.cell? ⟨w5.heap.size, 2, none⟩ = some (.slice la L.length lc) := o2V
        have ltC : w5.heap.size < W6.drew.heap.size := by show w5.heap.size < W6.heap.size; omega
        refine hK.out _ _ ⟨⟨_, cell_later hv' o2C⟩, (hv'.frozen (p := ⟨w5.heap.size, 2, none⟩) ltC).trans hS.2⟩ (fun hS => ?_)
        clear hK K
        have o2D := cell_later hv' o2C
        have ltD : w5.heap.size < v'.heap.size := Nat.lt_of_lt_of_le ltC hv'.size
        clear o2C ltC
        (try simp only [Act.put, List.getElem_toArray, List.getElem_cons_zero, List.getElem_cons_succ, List.setIfInBounds_toArray, List.set_cons_zero, List.set_cons_succ])
        refine wpAnyH_take (i := 5) (v := (.agg #[.int .i64 num, .slice a2 Y.length c2])) rfl (by as_aux_lemma => kernel_rfl) (by as_aux_lemma => kernel_rfl) (by as_aux_lemma => kernel_rfl) (fun _ _ _ h => h) (Or.inl ⟨by kernel_rfl, ?_⟩) hS ?_
        · intro w hSw; (try dsimp only at hSw); go_simp
        simp only [Act.put, List.getElem_toArray, List.getElem_cons_zero, List.getElem_cons_succ, List.setIfInBounds_toArray, List.set_cons_zero, List.set_cons_succ]
        refine wpAnyH_ready (rs := [1, 6]) (by as_aux_lemma => kernel_rfl) (by simp) ?_
        refine AllReadyH.cons rfl (fun K hK => ?_) (AllReadyH.cons rfl (fun K hK => ?_) AllReadyH.nil)
        · go_simp
          refine hK.out _ _ hS (fun hS => ?_)
          clear hK K
          (try simp only [Act.put, List.getElem_toArray, List.getElem_cons_zero, List.getElem_cons_succ, List.setIfInBounds_toArray, List.set_cons_zero, List.set_cons_succ])
          refine wpAnyH_ready (rs := [6]) (by as_aux_lemma => kernel_rfl) (by simp) ?_
          refine AllReadyH.cons rfl (fun K hK => ?_) AllReadyH.nil
          go_simp
          have o2C := o2D
          have ltC := ltD
          have hbN : Below v'.heap.size v' (v'.alloc (Obj.cells #[Value.int .i64 num, Value.slice a2 Y.length c2] 93)) := (Below.refl _ _).alloc (Nat.le_refl _) _
          refine hK.out _ _ ⟨⟨_, cell_later hbN o2C⟩, (hbN.frozen (p := ⟨w5.heap.size, 2, none⟩) ltC).trans hS.2⟩ (fun hS => ?_)
          clear hK K
          have o2F := cell_later hbN o2C
          have ltF : w5.heap.size < (v'.alloc (Obj.cells #[Value.int .i64 num, Value.slice a2 Y.length c2] 93)).heap.size := Nat.lt_of_lt_of_le ltC hbN.size
          (try simp only [Act.put, List.getElem_toArray, List.getElem_cons_zero, List.getElem_cons_succ, List.setIfInBounds_toArray, List.set_cons_zero, List.set_cons_succ])
          have hoF : RowB 93 5 (v'.alloc (Obj.cells #[Value.int .i64 num, Value.slice a2 Y.length c2] 93)) w4.heap.size w5.heap.size (.slice la L.length lc) L.length L := (RowB.below HO.out hv').below hbN
          have hrF : RowI .u8 5 (v'.alloc (Obj.cells #[Value.int .i64 num, Value.slice a2 Y.length c2] 93)) W6.drew.heap.size v'.heap.size (.slice a2 Y.length c2) Y.length Y := hrow2.below hbN
          have hvz := hv'.size
          have hzd : W6.drew.heap.size = W6.heap.size := rfl
          have hup : ∀ g, (Value.slice la L.length lc).ownBlock = some g → g < w5.heap.size := by
            obtain ⟨us, q1, q2, q3, q4⟩ := hoF
            exact q1.2
          obtain ⟨us, hus⟩ : ∃ us : List Bv, (v'.alloc (Obj.cells #[Value.int .i64 num, Value.slice a2 Y.length c2] 93)).ownsRow w4.heap.size 93 2 (.slice la L.length lc) L.length (us.flatMap bkE) := by
            obtain ⟨us, q1, q2, q3, q4⟩ := hoF
            exact ⟨us, q1.1.2⟩
          have hcl : ∀ j q, (bkE ((num : Int), .slice a2 Y.length c2))[j]? = some q → (v'.alloc (Obj.cells #[Value.int .i64 num, Value.slice a2 Y.length c2] 93)).cell? ((⟨v'.heap.size, 0, none⟩ : Addr).add j) = some q := fun j q hq => by
            rw [Addr.add_lit, Nat.zero_add, World.cell?_alloc_at _ _ _ _ rfl]
            simpa [bkE] using hq
          have hFz : (v'.alloc (Obj.cells #[Value.int .i64 num, Value.slice a2 Y.length c2] 93)).heap.size = v'.heap.size + 1 := by simp
          have hVF : Below W6.heap.size W6 (v'.alloc (Obj.cells #[Value.int .i64 num, Value.slice a2 Y.length c2] 93)) := Below.trans (b := W6.drew) (by exact (Below.refl W6.heap.size W6).drew) (hv'.trans (hbN.mono hv'.size))
          have hb0F : Below w.heap.size w (v'.alloc (Obj.cells #[Value.int .i64 num, Value.slice a2 Y.length c2] 93)) := B6.out.trans (hVF.mono (by omega))
          have obF : Blk _ w5.heap.size #[.int .i64 U, .int .i64 z, .slice la L.length lc] 26 := (hVF.block _ (Blk.lt OB6.out)).trans OB6.out
          have cbF : Blk _ w.heap.size #[.int .i64 U, .int .i64 z, .slice (some ⟨blk, off, none⟩) n ca] 26 := (hVF.block _ (Blk.lt CB6.out)).trans CB6.out
          have rbF : Blk _ (w.heap.size + 1) #[.int .i64 0, .int .i64 0, .slice none 0 0] 26 := (hVF.block _ (Blk.lt RB6.out)).trans RB6.out
          have hyF : RowI .u8 5 (v'.alloc (Obj.cells #[Value.int .i64 num, Value.slice a2 Y.length c2] 93)) (w.heap.size + 3) w4.heap.size (.slice ya Y.length yc) Y.length Y := RowI.below HY6.out hVF
          have HOF : Hid _ := hoF
          have HRF : Hid _ := hrF
          have HUS : Hid _ := hus
          have HYF : Hid _ := hyF
          have OBF := hid (show Blk _ _ _ _ from obF)
          have CBF := hid (show Blk _ _ _ _ from cbF)
          have RBF := hid (show Blk _ _ _ _ from rbF)
          have HCL : Hid _ := hcl
          generalize hFe : (v'.alloc (Obj.cells #[Value.int .i64 num, Value.slice a2 Y.length c2] 93)) = F at HOF HRF HUS HYF OBF CBF RBF HCL hb0F hFz hS o2F ltF ⊢
          clear hFe hoF hrF hus hcl obF cbF rbF hyF hVF hbN
          refine wpAnyH_ready (rs := [7]) (by as_aux_lemma => kernel_rfl) (by simp) ?_
          refine AllReadyH.cons rfl (fun K hK => ?_) AllReadyH.nil
          rw [if_pos (by rfl)]
          refine wp_append_own _ _ _ 24 rfl w4.heap.size 93 i0 (.agg #[.int .i64 0, .slice none 0 0]) 2 32 Try.underlying24 hi hz0 hz1 hz2 rfl (by decide) _ L.length (us.flatMap bkE) rfl HUS.out ⟨v'.heap.size, 0, none⟩ 1 1 (bkE ((num : Int), .slice a2 Y.length c2)) rfl rfl HCL.out (bkE_one num a2 Y.length c2) (by unfold maxLen; omega) (by omega) (by omega) ?_
          intro v7 w7 ho7 hg7 _
          have lo7 := World.ownsRow.lt HUS.out
          have hsn := RowB.snoc (num := num) bu_ne HOF.out HRF.out (by omega) (by omega) (by omega) (fun us' h' => by rw [ownsRow_same h' HUS.out]; exact ho7) hg7
          have hneq : ∀ B, B < w4.heap.size ∨ w5.heap.size ≤ B → some B ≠ (Value.slice la L.length lc).ownBlock := fun B hB hq => by have q1 := (lo7 B hq.symm).1; have q2 := hup B hq.symm; omega
          have ob7 := Blk.kept OBF.out hg7 (hneq _ (by omega))
          have cb7 := Blk.kept CBF.out hg7 (hneq _ (by omega))
          have rb7 := Blk.kept RBF.out hg7 (hneq _ (by omega))
          have b7 : Below w.heap.size w w7 := hb0F.grown hg7 (by omega) (fun j hj => by have := (lo7 j hj).1; omega)
          have hC7 : Chg w4.heap.size F.heap.size F w7 := Chg.of_grown hg7 (fun j hj => ⟨(lo7 j hj).1, (lo7 j hj).2⟩)
          have hy7 := RowI.chg HYF.out hC7 (.inl (by omega))
          obtain ⟨a7, c7, hv7, -, -⟩ := hsn.shape
          subst hv7
          have hz7 : w5.heap.size + 1 ≤ w7.heap.size := by have := hg7.size; omega
          have x2 := ob7.cell 2
          have xf2 := ob7.frozen 2
          simp at x2
          refine hK.out _ _ ⟨⟨_, x2⟩, xf2⟩ (fun hS => ?_)
          clear hK K
          (try simp only [Act.put, List.getElem_toArray, List.getElem_cons_zero, List.getElem_cons_succ, List.setIfInBounds_toArray, List.set_cons_zero, List.set_cons_succ])
          refine wpAnyH_take (i := 8) (v := (.pointer (some ⟨w5.heap.size, 2, none⟩))) rfl (by as_aux_lemma => kernel_rfl) (by as_aux_lemma => kernel_rfl) (by as_aux_lemma => kernel_rfl) (fun _ _ _ h => h) (Or.inl ⟨by kernel_rfl, ?_⟩) hS ?_
          · intro w hSw; (try dsimp only at hSw); go_simp
          simp only [Act.put, List.getElem_toArray, List.getElem_cons_zero, List.getElem_cons_succ, List.setIfInBounds_toArray, List.set_cons_zero, List.set_cons_succ]
          refine wpAnyH_ready (rs := [9]) (by as_aux_lemma => kernel_rfl) (by simp) ?_
          refine AllReadyH.cons rfl (fun K hK => ?_) AllReadyH.nil
          go_simp
          have ob8 := ob7.set (i := 2) (.slice a7 (L.length + 1) c7)
          refine hK.out _ _ ⟨⟨_, by simpa using ob8.cell 2⟩, ob8.frozen 2⟩ (fun hS => ?_)
          clear hK K
          refine wpAnyH_done (by kernel_rfl) ?_ _
          clear hS
          have cb8 := cb7.other (i := 2) (B' := w5.heap.size) (by omega) (.slice a7 (L.length + 1) c7)
          have rb8 := rb7.other (i := 2) (B' := w5.heap.size) (by omega) (.slice a7 (L.length + 1) c7)
          have hr8 := RowB.apart hsn ob7 (by decide) (by decide) (set_grown w7 w5.heap.size 2 (.slice a7 (L.length + 1) c7))
          have hy8 := RowI.chg hy7 (Chg.one (set_grown w7 w5.heap.size 2 (.slice a7 (L.length + 1) c7))) (.inl (by omega))
          have b8 := below_chg b7 (Chg.one (set_grown w7 w5.heap.size 2 (.slice a7 (L.length + 1) c7))) (by omega) (by omega)
          have hz8 : (w7.setCell ⟨w5.heap.size, 2, none⟩ (.slice a7 (L.length + 1) c7)).heap.size = w7.heap.size := by simp [World.setCell]
          rw [← hz8] at hr8 hz7
          obtain ⟨N1, hN1⟩ : ∃ N1, N1 = L.length + 1 := ⟨_, rfl⟩
          rw [← hN1] at ob8 cb8 rb8 hr8 hy8 b8 hz8 hz7 ⊢
          simp at ob8
          have HYG := hid (show RowI .u8 5 _ (w.heap.size + 3) w4.heap.size (.slice ya Y.length yc) Y.length Y from hy8)
          have HQG := hid (show RowB 93 5 _ w4.heap.size _ (.slice a7 N1 c7) N1 (L ++ [((num : Int), Y)]) from hr8)
          have CB8 := hid (show Blk _ _ _ _ from cb8)
          have RB8 := hid (show Blk _ _ _ _ from rb8)
          have OB8 := hid (show Blk _ _ #[.int .i64 U, .int .i64 z, .slice a7 N1 c7] _ from ob8)
          have B8 := hid b8
          clear cb8 rb8 ob8 hr8 hy8 b8 cb7 rb7 ob7 hsn hg7 ho7 hy7 hC7 HOF HRF HUS HYF OBF CBF RBF HCL hz8 x2 xf2 o2F ltF o2D ltD b7 hb0F lo7 hneq hup
          generalize w7.setCell ⟨w5.heap.size, 2, none⟩ (.slice a7 N1 c7) = G at HYG HQG CB8 RB8 OB8 B8 hz7 ⊢
          have x0 := CB8.out.cell 0
          have x1 := CB8.out.cell 1
          have y0 := OB8.out.cell 0
          have y1 := OB8.out.cell 1
          have y2 := OB8.out.cell 2
          simp at x0 x1 y0 y1 y2
          have hYn : ¬ Y.length = 0 := hY0
          by_cases hgt : z < (N1 : Int)
          · have EQ0 := hid (ftQ_more (num := (num : Int)) hYn (show z < ((lessB bs num).length + 1 : Nat) by rw [← HL.out, ← hN1]; exact hgt))
            rw [← HL.out, ← hN1] at EQ0
            have hbd : (N1 : Int) + byB (L ++ [((num : Int), Y)]) ≤ 1048576 := by
              have e1 : byB (L ++ [((num : Int), Y)]) = byB L + Y.length := by rw [byB_append]; rfl
              have hbo := okC_byB HOK.out
              rw [e1]; push_cast; omega
            have CL2 : Hid _ := fun w' h' => l3Less_any U z a7 N1 c7 (L ++ [((num : Int), Y)]) 0 w' h' hbd
            clear hN1 hbd
            go_wp2_with fail
            refine Calls.mono (CL2.out _ (RowB.read HQG.out)) ?_
            rintro e w9 ⟨v9, rfl, hr9, hb9⟩
            rw [← EQ0.out] at hr9
            obtain ⟨fa, fc, rfl, -, -⟩ := hr9.shape
            obtain ⟨X, hX⟩ : ∃ X, X = ftQ z bs num Y := ⟨_, rfl⟩
            rw [← hX] at hr9 ⊢
            have EQ := hid hX.symm
            clear hX CL2 EQ0
            have ob9 : Blk w9 w5.heap.size #[.int .i64 U, .int .i64 z, .slice a7 N1 c7] 26 := (hb9.block _ (Blk.lt OB8.out)).trans OB8.out
            have rb9 : Blk w9 (w.heap.size + 1) #[.int .i64 0, .int .i64 0, .slice none 0 0] 26 := (hb9.block _ (Blk.lt RB8.out)).trans RB8.out
            have f0 := ob9.frozen 0
            have f1 := ob9.frozen 1
            have f2 := ob9.frozen 2
            have q0 := ob9.cell 0
            have q1 := ob9.cell 1
            have q2 := ob9.cell 2
            simp at q0 q1 q2
            have hz9 := hb9.size
            have obG := ((ob9.set (i := 0) (.int .i64 U)).set (i := 1) (.int .i64 z)).set (i := 2) (.slice fa X.length fc)
            have rbG := ((rb9.other (i := 0) (B' := w5.heap.size) (by omega) (.int .i64 U)).other (i := 1) (B' := w5.heap.size) (by omega) (.int .i64 z)).other (i := 2) (B' := w5.heap.size) (by omega) (.slice fa X.length fc)
            have hg9 : w9.grownBy (((w9.setCell ⟨w5.heap.size, 0, none⟩ (.int .i64 U)).setCell ⟨w5.heap.size, 1, none⟩ (.int .i64 z)).setCell ⟨w5.heap.size, 2, none⟩ (.slice fa X.length fc)) (some w5.heap.size) := grownT (grownT (set_grown _ _ _ _) (set_grown _ _ _ _)) (set_grown _ _ _ _)
            have hyG := RowI.chg (RowI.below HYG.out hb9) (Chg.one hg9) (.inl (by omega))
            have hqG := RowB.apart hr9 ob9 (by decide) (by decide) hg9
            have bG := below_chg (B8.out.trans (hb9.mono (by omega))) (Chg.one hg9) (by omega) (by omega)
            have hGs : (((w9.setCell ⟨w5.heap.size, 0, none⟩ (.int .i64 U)).setCell ⟨w5.heap.size, 1, none⟩ (.int .i64 z)).setCell ⟨w5.heap.size, 2, none⟩ (.slice fa X.length fc)).heap.size = w9.heap.size := by simp [World.setCell]
            rw [← hGs] at hqG hz9
            simp at obG
            clear HYG HQG CB8 RB8 OB8 B8 rb9 hr9 hb9 hg9 x0 x1 y0 y1 y2
            have HYG := hid (show RowI .u8 5 _ (w.heap.size + 3) w4.heap.size (.slice ya Y.length yc) Y.length Y from hyG)
            have HQG := hid (show RowB 93 5 _ _ _ (.slice fa X.length fc) X.length X from hqG)
            have OBG := hid (show Blk _ _ #[.int .i64 U, .int .i64 z, .slice fa X.length fc] _ from obG)
            have RBG := hid (show Blk _ _ _ _ from rbG)
            have BG := hid bG
            clear hyG hqG obG rbG bG ob9
            go_wp2_with fail
            clear hGs
            generalize ((w9.setCell ⟨w5.heap.size, 0, none⟩ (.int .i64 U)).setCell ⟨w5.heap.size, 1, none⟩ (.int .i64 z)).setCell ⟨w5.heap.size, 2, none⟩ (.slice fa X.length fc) = G2 at HYG HQG OBG RBG BG hz9 ⊢
            clear f0 f1 f2 q0 q1 q2
            have obG := OBG.out
            have rbG := RBG.out
            have bG := BG.out
            have hGz : w4.heap.size ≤ G2.heap.size := by omega
            have d0 := rbG.cell 0
            have d1 := rbG.cell 1
            have d2 := rbG.cell 2
            have df0 := rbG.frozen 0
            have df1 := rbG.frozen 1
            have df2 := rbG.frozen 2
            have o0 := obG.cell 0
            have o1 := obG.cell 1
            have o2 := obG.cell 2
            simp at d0 d1 d2 o0 o1 o2
            have hgs : ∀ x y q, G2.grownBy (((G2.setCell ⟨w.heap.size + 1, 0, none⟩ x).setCell ⟨w.heap.size + 1, 1, none⟩ y).setCell ⟨w.heap.size + 1, 2, none⟩ q) (some (w.heap.size + 1)) := fun x y q => grownT (grownT (set_grown _ _ _ _) (set_grown _ _ _ _)) (set_grown _ _ _ _)
            have HGS := hid hgs
            clear obG rbG hgs
            go_region
            go_wp2
            refine bodyPost_ret (v := .tuple #[.slice ya Y.length yc, .agg #[.int .i64 U, .int .i64 z, .slice fa X.length fc]]) (by simp [results, Try.results56, go_sem, d0, d1, d2]) rfl ⟨.slice ya Y.length yc, .slice fa X.length fc, rfl, ?_, ?_, ?_⟩
            · have hq := RowI.below (RowI.chg HYG.out (Chg.one (HGS.out (.int .i64 U) (.int .i64 z) (.slice fa X.length fc))) (.inr (by omega))) ((Below.refl _ _).drew)
              rw [← HY.out]
              first | exact hq.mono (by omega) (by simpa [World.setCell] using hGz) | (rw [hY0]; exact hq.mono (by omega) (by simpa [World.setCell] using hGz))
            · have hq := RowB.below (RowB.chg HQG.out (Chg.one (HGS.out (.int .i64 U) (.int .i64 z) (.slice fa X.length fc))) (.inr (by omega))) ((Below.refl _ _).drew)
              rw [← HY.out, EQ.out]
              exact hq.mono (by omega) (by simp [World.setCell])
            · exact (((bG.setCell (by simp) _).setCell (by simp) _).setCell (by simp) _).drew
          · have EQ := hid (ftQ_just (num := (num : Int)) hYn (show ¬ z < ((lessB bs num).length + 1 : Nat) by rw [← HL.out, ← hN1]; exact hgt))
            rw [← HL.out] at EQ
            have hXl : (L ++ [((num : Int), Y)]).length = N1 := by rw [hN1]; simp
            have obG := OB8.out
            have rbG := RB8.out
            have bG := B8.out
            have hGz : w4.heap.size ≤ G.heap.size := by omega
            clear hN1 CB8 RB8 OB8
            rw [← hXl] at HQG
            have HQG' := HQG
            clear HQG
            rw [hXl] at HQG'
            have HXL := hid hXl
            clear hXl
            go_wp2_with fail
            clear x0 x1 y0 y1 y2
            have d0 := rbG.cell 0
            have d1 := rbG.cell 1
            have d2 := rbG.cell 2
            have df0 := rbG.frozen 0
            have df1 := rbG.frozen 1
            have df2 := rbG.frozen 2
            have o0 := obG.cell 0
            have o1 := obG.cell 1
            have o2 := obG.cell 2
            simp at d0 d1 d2 o0 o1 o2
            have hgs : ∀ x y q, G.grownBy (((G.setCell ⟨w.heap.size + 1, 0, none⟩ x).setCell ⟨w.heap.size + 1, 1, none⟩ y).setCell ⟨w.heap.size + 1, 2, none⟩ q) (some (w.heap.size + 1)) := fun x y q => grownT (grownT (set_grown _ _ _ _) (set_grown _ _ _ _)) (set_grown _ _ _ _)
            have HGS := hid hgs
            clear obG rbG hgs
            go_region
            go_wp2
            refine bodyPost_ret (v := .tuple #[.slice ya Y.length yc, .agg #[.int .i64 U, .int .i64 z, .slice a7 N1 c7]]) (by simp [results, Try.results56, go_sem, d0, d1, d2]) rfl ⟨.slice ya Y.length yc, .slice a7 N1 c7, rfl, ?_, ?_, ?_⟩
            · have hq := RowI.below (RowI.chg HYG.out (Chg.one (HGS.out (.int .i64 U) (.int .i64 z) (.slice a7 N1 c7))) (.inr (by omega))) ((Below.refl _ _).drew)
              rw [← HY.out]
              first | exact hq.mono (by omega) (by simpa [World.setCell] using hGz) | (rw [hY0]; exact hq.mono (by omega) (by simpa [World.setCell] using hGz))
            · have hq := RowB.below (RowB.chg HQG'.out (Chg.one (HGS.out (.int .i64 U) (.int .i64 z) (.slice a7 N1 c7))) (.inr (by omega))) ((Below.refl _ _).drew)
              rw [← HY.out, EQ.out, HXL.out]
              exact hq.mono (by omega) (by simp [World.setCell])
            · exact (((bG.setCell (by simp) _).setCell (by simp) _).setCell (by simp) _).drew
        · go_simp
          have o2C := o2D
          have ltC := ltD
          have hbN : Below v'.heap.size v' (v'.alloc (Obj.cells #[Value.int .i64 num, Value.slice a2 Y.length c2] 93)) := (Below.refl _ _).alloc (Nat.le_refl _) _
          refine hK.out _ _ ⟨⟨_, cell_later hbN o2C⟩, (hbN.frozen (p := ⟨w5.heap.size, 2, none⟩) ltC).trans hS.2⟩ (fun hS => ?_)
          clear hK K
          have o2F := cell_later hbN o2C
          have ltF : w5.heap.size < (v'.alloc (Obj.cells #[Value.int .i64 num, Value.slice a2 Y.length c2] 93)).heap.size := Nat.lt_of_lt_of_le ltC hbN.size
          (try simp only [Act.put, List.getElem_toArray, List.getElem_cons_zero, List.getElem_cons_succ, List.setIfInBounds_toArray, List.set_cons_zero, List.set_cons_succ])
          refine wpAnyH_ready (rs := [1]) (by as_aux_lemma => kernel_rfl) (by simp) ?_
          refine AllReadyH.cons rfl (fun K hK => ?_) AllReadyH.nil
          go_simp
          refine hK.out _ _ hS (fun hS => ?_)
          clear hK K
          (try simp only [Act.put, List.getElem_toArray, List.getElem_cons_zero, List.getElem_cons_succ, List.setIfInBounds_toArray, List.set_cons_zero, List.set_cons_succ])
          have hoF : RowB 93 5 (v'.alloc (Obj.cells #[Value.int .i64 num, Value.slice a2 Y.length c2] 93)) w4.heap.size w5.heap.size (.slice la L.length lc) L.length L := (RowB.below HO.out hv').below hbN
          have hrF : RowI .u8 5 (v'.alloc (Obj.cells #[Value.int .i64 num, Value.slice a2 Y.length c2] 93)) W6.drew.heap.size v'.heap.size (.slice a2 Y.length c2) Y.length Y := hrow2.below hbN
          have hvz := hv'.size
          have hzd : W6.drew.heap.size = W6.heap.size := rfl
          have hup : ∀ g, (Value.slice la L.length lc).ownBlock = some g → g < w5.heap.size := by
            obtain ⟨us, q1, q2, q3, q4⟩ := hoF
            exact q1.2
          obtain ⟨us, hus⟩ : ∃ us : List Bv, (v'.alloc (Obj.cells #[Value.int .i64 num, Value.slice a2 Y.length c2] 93)).ownsRow w4.heap.size 93 2 (.slice la L.length lc) L.length (us.flatMap bkE) := by
            obtain ⟨us, q1, q2, q3, q4⟩ := hoF
            exact ⟨us, q1.1.2⟩
          have hcl : ∀ j q, (bkE ((num : Int), .slice a2 Y.length c2))[j]? = some q → (v'.alloc (Obj.cells #[Value.int .i64 num, Value.slice a2 Y.length c2] 93)).cell? ((⟨v'.heap.size, 0, none⟩ : Addr).add j) = some q := fun j q hq => by
            rw [Addr.add_lit, Nat.zero_add, World.cell?_alloc_at _ _ _ _ rfl]
            simpa [bkE] using hq
          have hFz : (v'.alloc (Obj.cells #[Value.int .i64 num, Value.slice a2 Y.length c2] 93)).heap.size = v'.heap.size + 1 := by simp
          have hVF : Below W6.heap.size W6 (v'.alloc (Obj.cells #[Value.int .i64 num, Value.slice a2 Y.length c2] 93)) := Below.trans (b := W6.drew) (by exact (Below.refl W6.heap.size W6).drew) (hv'.trans (hbN.mono hv'.size))
          have hb0F : Below w.heap.size w (v'.alloc (Obj.cells #[Value.int .i64 num, Value.slice a2 Y.length c2] 93)) := B6.out.trans (hVF.mono (by omega))
          have obF : Blk _ w5.heap.size #[.int .i64 U, .int .i64 z, .slice la L.length lc] 26 := (hVF.block _ (Blk.lt OB6.out)).trans OB6.out
          have cbF : Blk _ w.heap.size #[.int .i64 U, .int .i64 z, .slice (some ⟨blk, off, none⟩) n ca] 26 := (hVF.block _ (Blk.lt CB6.out)).trans CB6.out
          have rbF : Blk _ (w.heap.size + 1) #[.int .i64 0, .int .i64 0, .slice none 0 0] 26 := (hVF.block _ (Blk.lt RB6.out)).trans RB6.out
          have hyF : RowI .u8 5 (v'.alloc (Obj.cells #[Value.int .i64 num, Value.slice a2 Y.length c2] 93)) (w.heap.size + 3) w4.heap.size (.slice ya Y.length yc) Y.length Y := RowI.below HY6.out hVF
          have HOF : Hid _ := hoF
          have HRF : Hid _ := hrF
          have HUS : Hid _ := hus
          have HYF : Hid _ := hyF
          have OBF := hid (show Blk _ _ _ _ from obF)
          have CBF := hid (show Blk _ _ _ _ from cbF)
          have RBF := hid (show Blk _ _ _ _ from rbF)
          have HCL : Hid _ := hcl
          generalize hFe : (v'.alloc (Obj.cells #[Value.int .i64 num, Value.slice a2 Y.length c2] 93)) = F at HOF HRF HUS HYF OBF CBF RBF HCL hb0F hFz hS o2F ltF ⊢
          clear hFe hoF hrF hus hcl obF cbF rbF hyF hVF hbN
          refine wpAnyH_ready (rs := [7]) (by as_aux_lemma => kernel_rfl) (by simp) ?_
          refine AllReadyH.cons rfl (fun K hK => ?_) AllReadyH.nil
          rw [if_pos (by rfl)]
          refine wp_append_own _ _ _ 24 rfl w4.heap.size 93 i0 (.agg #[.int .i64 0, .slice none 0 0]) 2 32 Try.underlying24 hi hz0 hz1 hz2 rfl (by decide) _ L.length (us.flatMap bkE) rfl HUS.out ⟨v'.heap.size, 0, none⟩ 1 1 (bkE ((num : Int), .slice a2 Y.length c2)) rfl rfl HCL.out (bkE_one num a2 Y.length c2) (by unfold maxLen; omega) (by omega) (by omega) ?_
          intro v7 w7 ho7 hg7 _
          have lo7 := World.ownsRow.lt HUS.out
          have hsn := RowB.snoc (num := num) bu_ne HOF.out HRF.out (by omega) (by omega) (by omega) (fun us' h' => by rw [ownsRow_same h' HUS.out]; exact ho7) hg7
          have hneq : ∀ B, B < w4.heap.size ∨ w5.heap.size ≤ B → some B ≠ (Value.slice la L.length lc).ownBlock := fun B hB hq => by have q1 := (lo7 B hq.symm).1; have q2 := hup B hq.symm; omega
          have ob7 := Blk.kept OBF.out hg7 (hneq _ (by omega))
          have cb7 := Blk.kept CBF.out hg7 (hneq _ (by omega))
          have rb7 := Blk.kept RBF.out hg7 (hneq _ (by omega))
          have b7 : Below w.heap.size w w7 := hb0F.grown hg7 (by omega) (fun j hj => by have := (lo7 j hj).1; omega)
          have hC7 : Chg w4.heap.size F.heap.size F w7 := Chg.of_grown hg7 (fun j hj => ⟨(lo7 j hj).1, (lo7 j hj).2⟩)
          have hy7 := RowI.chg HYF.out hC7 (.inl (by omega))
          obtain ⟨a7, c7, hv7, -, -⟩ := hsn.shape
          subst hv7
          have hz7 : w5.heap.size + 1 ≤ w7.heap.size := by have := hg7.size; omega
          have x2 := ob7.cell 2
          have xf2 := ob7.frozen 2
          simp at x2
          refine hK.out _ _ ⟨⟨_, x2⟩, xf2⟩ (fun hS => ?_)
          clear hK K
          (try simp only [Act.put, List.getElem_toArray, List.getElem_cons_zero, List.getElem_cons_succ, List.setIfInBounds_toArray, List.set_cons_zero, List.set_cons_succ])
          refine wpAnyH_take (i := 8) (v := (.pointer (some ⟨w5.heap.size, 2, none⟩))) rfl (by as_aux_lemma => kernel_rfl) (by as_aux_lemma => kernel_rfl) (by as_aux_lemma => kernel_rfl) (fun _ _ _ h => h) (Or.inl ⟨by kernel_rfl, ?_⟩) hS ?_
          · intro w hSw; (try dsimp only at hSw); go_simp
          simp only [Act.put, List.getElem_toArray, List.getElem_cons_zero, List.getElem_cons_succ, List.setIfInBounds_toArray, List.set_cons_zero, List.set_cons_succ]
          refine wpAnyH_ready (rs := [9]) (by as_aux_lemma => kernel_rfl) (by simp) ?_
          refine AllReadyH.cons rfl (fun K hK => ?_) AllReadyH.nil
          go_simp
          have ob8 := ob7.set (i := 2) (.slice a7 (L.length + 1) c7)
          refine hK.out _ _ ⟨⟨_, by simpa using ob8.cell 2⟩, ob8.frozen 2⟩ (fun hS => ?_)
          clear hK K
          refine wpAnyH_done (by kernel_rfl) ?_ _
          clear hS
          have cb8 := cb7.other (i := 2) (B' := w5.heap.size) (by omega) (.slice a7 (L.length + 1) c7)
          have rb8 := rb7.other (i := 2) (B' := w5.heap.size) (by omega) (.slice a7 (L.length + 1) c7)
          have hr8 := RowB.apart hsn ob7 (by decide) (by decide) (set_grown w7 w5.heap.size 2 (.slice a7 (L.length + 1) c7))
          have hy8 := RowI.chg hy7 (Chg.one (set_grown w7 w5.heap.size 2 (.slice a7 (L.length + 1) c7))) (.inl (by omega))
          have b8 := below_chg b7 (Chg.one (set_grown w7 w5.heap.size 2 (.slice a7 (L.length + 1) c7))) (by omega) (by omega)
          have hz8 : (w7.setCell ⟨w5.heap.size, 2, none⟩ (.slice a7 (L.length + 1) c7)).heap.size = w7.heap.size := by simp [World.setCell]
          rw [← hz8] at hr8 hz7
          obtain ⟨N1, hN1⟩ : ∃ N1, N1 = L.length + 1 := ⟨_, rfl⟩
          rw [← hN1] at ob8 cb8 rb8 hr8 hy8 b8 hz8 hz7 ⊢
          simp at ob8
          have HYG := hid (show RowI .u8 5 _ (w.heap.size + 3) w4.heap.size (.slice ya Y.length yc) Y.length Y from hy8)
          have HQG := hid (show RowB 93 5 _ w4.heap.size _ (.slice a7 N1 c7) N1 (L ++ [((num : Int), Y)]) from hr8)
          have CB8 := hid (show Blk _ _ _ _ from cb8)
          have RB8 := hid (show Blk _ _ _ _ from rb8)
          have OB8 := hid (show Blk _ _ #[.int .i64 U, .int .i64 z, .slice a7 N1 c7] _ from ob8)
          have B8 := hid b8
          clear cb8 rb8 ob8 hr8 hy8 b8 cb7 rb7 ob7 hsn hg7 ho7 hy7 hC7 HOF HRF HUS HYF OBF CBF RBF HCL hz8 x2 xf2 o2F ltF o2D ltD b7 hb0F lo7 hneq hup
          generalize w7.setCell ⟨w5.heap.size, 2, none⟩ (.slice a7 N1 c7) = G at HYG HQG CB8 RB8 OB8 B8 hz7 ⊢
          have x0 := CB8.out.cell 0
          have x1 := CB8.out.cell 1
          have y0 := OB8.out.cell 0
          have y1 := OB8.out.cell 1
          have y2 := OB8.out.cell 2
          simp at x0 x1 y0 y1 y2
          have hYn : ¬ Y.length = 0 := hY0
          by_cases hgt : z < (N1 : Int)
          · have EQ0 := hid (ftQ_more (num := (num : Int)) hYn (show z < ((lessB bs num).length + 1 : Nat) by rw [← HL.out, ← hN1]; exact hgt))
            rw [← HL.out, ← hN1] at EQ0
            have hbd : (N1 : Int) + byB (L ++ [((num : Int), Y)]) ≤ 1048576 := by
              have e1 : byB (L ++ [((num : Int), Y)]) = byB L + Y.length := by rw [byB_append]; rfl
              have hbo := okC_byB HOK.out
              rw [e1]; push_cast; omega
            have CL2 : Hid _ := fun w' h' => l3Less_any U z a7 N1 c7 (L ++ [((num : Int), Y)]) 0 w' h' hbd
            clear hN1 hbd
            go_wp2_with fail
            refine Calls.mono (CL2.out _ (RowB.read HQG.out)) ?_
            rintro e w9 ⟨v9, rfl, hr9, hb9⟩
            rw [← EQ0.out] at hr9
            obtain ⟨fa, fc, rfl, -, -⟩ := hr9.shape
            obtain ⟨X, hX⟩ : ∃ X, X = ftQ z bs num Y := ⟨_, rfl⟩
            rw [← hX] at hr9 ⊢
            have EQ := hid hX.symm
            clear hX CL2 EQ0
            have ob9 : Blk w9 w5.heap.size #[.int .i64 U, .int .i64 z, .slice a7 N1 c7] 26 := (hb9.block _ (Blk.lt OB8.out)).trans OB8.out
            have rb9 : Blk w9 (w.heap.size + 1) #[.int .i64 0, .int .i64 0, .slice none 0 0] 26 := (hb9.block _ (Blk.lt RB8.out)).trans RB8.out
            have f0 := ob9.frozen 0
            have f1 := ob9.frozen 1
            have f2 := ob9.frozen 2
            have q0 := ob9.cell 0
            have q1 := ob9.cell 1
            have q2 := ob9.cell 2
            simp at q0 q1 q2
            have hz9 := hb9.size
            have obG := ((ob9.set (i := 0) (.int .i64 U)).set (i := 1) (.int .i64 z)).set (i := 2) (.slice fa X.length fc)
            have rbG := ((rb9.other (i := 0) (B' := w5.heap.size) (by omega) (.int .i64 U)).other (i := 1) (B' := w5.heap.size) (by omega) (.int .i64 z)).other (i := 2) (B' := w5.heap.size) (by omega) (.slice fa X.length fc)
            have hg9 : w9.grownBy (((w9.setCell ⟨w5.heap.size, 0, none⟩ (.int .i64 U)).setCell ⟨w5.heap.size, 1, none⟩ (.int .i64 z)).setCell ⟨w5.heap.size, 2, none⟩ (.slice fa X.length fc)) (some w5.heap.size) := grownT (grownT (set_grown _ _ _ _) (set_grown _ _ _ _)) (set_grown _ _ _ _)
            have hyG := RowI.chg (RowI.below HYG.out hb9) (Chg.one hg9) (.inl (by omega))
            have hqG := RowB.apart hr9 ob9 (by decide) (by decide) hg9
            have bG := below_chg (B8.out.trans (hb9.mono (by omega))) (Chg.one hg9) (by omega) (by omega)
            have hGs : (((w9.setCell ⟨w5.heap.size, 0, none⟩ (.int .i64 U)).setCell ⟨w5.heap.size, 1, none⟩ (.int .i64 z)).setCell ⟨w5.heap.size, 2, none⟩ (.slice fa X.length fc)).heap.size = w9.heap.size := by simp [World.setCell]
            rw [← hGs] at hqG hz9
            simp at obG
            clear HYG HQG CB8 RB8 OB8 B8 rb9 hr9 hb9 hg9 x0 x1 y0 y1 y2
            have HYG := hid (show RowI .u8 5 _ (w.heap.size + 3) w4.heap.size (.slice ya Y.length yc) Y.length Y from hyG)
            have HQG := hid (show RowB 93 5 _ _ _ (.slice fa X.length fc) X.length X from hqG)
            have OBG := hid (show Blk _ _ #[.int .i64 U, .int .i64 z, .slice fa X.length fc] _ from obG)
            have RBG := hid (show Blk _ _ _ _ from rbG)
            have BG := hid bG
            clear hyG hqG obG rbG bG ob9
            go_wp2_with fail
            clear hGs
            generalize ((w9.setCell ⟨w5.heap.size, 0, none⟩ (.int .i64 U)).setCell ⟨w5.heap.size, 1, none⟩ (.int .i64 z)).setCell ⟨w5.heap.size, 2, none⟩ (.slice fa X.length fc) = G2 at HYG HQG OBG RBG BG hz9 ⊢
            clear f0 f1 f2 q0 q1 q2
            have obG := OBG.out
            have rbG := RBG.out
            have bG := BG.out
            have hGz : w4.heap.size ≤ G2.heap.size := by omega
            have d0 := rbG.cell 0
            have d1 := rbG.cell 1
            have d2 := rbG.cell 2
            have df0 := rbG.frozen 0
            have df1 := rbG.frozen 1
            have df2 := rbG.frozen 2
            have o0 := obG.cell 0
            have o1 := obG.cell 1
            have o2 := obG.cell 2
            simp at d0 d1 d2 o0 o1 o2
            have hgs : ∀ x y q, G2.grownBy (((G2.setCell ⟨w.heap.size + 1, 0, none⟩ x).setCell ⟨w.heap.size + 1, 1, none⟩ y).setCell ⟨w.heap.size + 1, 2, none⟩ q) (some (w.heap.size + 1)) := fun x y q => grownT (grownT (set_grown _ _ _ _) (set_grown _ _ _ _)) (set_grown _ _ _ _)
            have HGS := hid hgs
            clear obG rbG hgs
            go_region
            go_wp2
            refine bodyPost_ret (v := .tuple #[.slice ya Y.length yc, .agg #[.int .i64 U, .int .i64 z, .slice fa X.length fc]]) (by simp [results, Try.results56, go_sem, d0, d1, d2]) rfl ⟨.slice ya Y.length yc, .slice fa X.length fc, rfl, ?_, ?_, ?_⟩
            · have hq := RowI.below (RowI.chg HYG.out (Chg.one (HGS.out (.int .i64 U) (.int .i64 z) (.slice fa X.length fc))) (.inr (by omega))) ((Below.refl _ _).drew)
              rw [← HY.out]
              first | exact hq.mono (by omega) (by simpa [World.setCell] using hGz) | (rw [hY0]; exact hq.mono (by omega) (by simpa [World.setCell] using hGz))
            · have hq := RowB.below (RowB.chg HQG.out (Chg.one (HGS.out (.int .i64 U) (.int .i64 z) (.slice fa X.length fc))) (.inr (by omega))) ((Below.refl _ _).drew)
              rw [← HY.out, EQ.out]
              exact hq.mono (by omega) (by simp [World.setCell])
            · exact (((bG.setCell (by simp) _).setCell (by simp) _).setCell (by simp) _).drew
          · have EQ := hid (ftQ_just (num := (num : Int)) hYn (show ¬ z < ((lessB bs num).length + 1 : Nat) by rw [← HL.out, ← hN1]; exact hgt))
            rw [← HL.out] at EQ
            have hXl : (L ++ [((num : Int), Y)]).length = N1 := by rw [hN1]; simp
            have obG := OB8.out
            have rbG := RB8.out
            have bG := B8.out
            have hGz : w4.heap.size ≤ G.heap.size := by omega
            clear hN1 CB8 RB8 OB8
            rw [← hXl] at HQG
            have HQG' := HQG
            clear HQG
            rw [hXl] at HQG'
            have HXL := hid hXl
            clear hXl
            go_wp2_with fail
            clear x0 x1 y0 y1 y2
            have d0 := rbG.cell 0
            have d1 := rbG.cell 1
            have d2 := rbG.cell 2
            have df0 := rbG.frozen 0
            have df1 := rbG.frozen 1
            have df2 := rbG.frozen 2
            have o0 := obG.cell 0
            have o1 := obG.cell 1
            have o2 := obG.cell 2
            simp at d0 d1 d2 o0 o1 o2
            have hgs : ∀ x y q, G.grownBy (((G.setCell ⟨w.heap.size + 1, 0, none⟩ x).setCell ⟨w.heap.size + 1, 1, none⟩ y).setCell ⟨w.heap.size + 1, 2, none⟩ q) (some (w.heap.size + 1)) := fun x y q => grownT (grownT (set_grown _ _ _ _) (set_grown _ _ _ _)) (set_grown _ _ _ _)
            have HGS := hid hgs
            clear obG rbG hgs
            go_region
            go_wp2
            refine bodyPost_ret (v := .tuple #[.slice ya Y.length yc, .agg #[.int .i64 U, .int .i64 z, .slice a7 N1 c7]]) (by simp [results, Try.results56, go_sem, d0, d1, d2]) rfl ⟨.slice ya Y.length yc, .slice a7 N1 c7, rfl, ?_, ?_, ?_⟩
            · have hq := RowI.below (RowI.chg HYG.out (Chg.one (HGS.out (.int .i64 U) (.int .i64 z) (.slice a7 N1 c7))) (.inr (by omega))) ((Below.refl _ _).drew)
              rw [← HY.out]
              first | exact hq.mono (by omega) (by simpa [World.setCell] using hGz) | (rw [hY0]; exact hq.mono (by omega) (by simpa [World.setCell] using hGz))
            · have hq := RowB.below (RowB.chg HQG'.out (Chg.one (HGS.out (.int .i64 U) (.int .i64 z) (.slice a7 N1 c7))) (.inr (by omega))) ((Below.refl _ _).drew)
              rw [← HY.out, EQ.out, HXL.out]
              exact hq.mono (by omega) (by simp [World.setCell])
            · exact (((bG.setCell (by simp) _).setCell (by simp) _).setCell (by simp) _).drew
end Go.Proofs.Ytckkkhabjfbngaa
