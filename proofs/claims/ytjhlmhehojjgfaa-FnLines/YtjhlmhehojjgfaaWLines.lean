/-
  The walk of FnLines.
-/
import Derived.Test.YtjhlmhehojjgfaaDraw6
import Derived.Test.YtjhlmhehojjgfaaLinesN
import Derived.Test.YtjhlmhehojjgfaaLines5
import Derived.Test.YtjhlmhehojjgfaaLines2
import Derived.Deep.RegionWith
import Derived.Deep.RegionHeld3
namespace Go.Proofs.Ytjhlmhehojjgfaa.fnLines
open Go.RowKit
set_option linter.unusedVariables false
set_option linter.unusedSimpArgs false

theorem fldL0 (x y : Value) (w : World) : (Instr.field 45 (.agg #[x, y]) 0).run Try.prog w = .ok x w := by kernel_rfl
theorem fldB0 (x y : Value) (w : World) : (Instr.field 35 (.agg #[x, y]) 0).run Try.prog w = .ok x w := by kernel_rfl

set_option maxRecDepth 10000 in
set_option maxHeartbeats 6400000 in
theorem walk (a : Option Addr) (n ca : Nat) (xs : List Int) (w : World) (ha : Rd .u8 w a n xs) (hB : Bytes xs) (hm : n ≤ maxLen) :
    Calls Try.prog 4 #[.slice a n ca] w fun e w' => e = .returned (.bool true) ∧ Below w.heap.size w w' := by
  obtain ⟨i0, hi, hz0, hz1, hz2⟩ := info_parts info8d
  unfold maxLen at hm
  by_cases hn : n ≤ 1048576
  · go_enter Try.func4, Try.ntmps4
    go_wp2_with (go_at_call 11; go_in)
    refine (DrawLinesIn_any a n ca xs _ ha hB hn).mono ?_
    rintro e w1 ⟨v1, ys, rfl, oy, hyl, hyb, hb1⟩
    obtain ⟨ay, cy, rfl, hc1, hm1⟩ := oy.shape
    have M1 : cy ≤ 9223372036854775807 := by unfold maxLen at hm1; omega
    have IL := fun (w' : World) (h : Rd .u8 w' ay ys.length ys) => implLinesIn_any ay ys.length cy ys w' h hyb (by omega) hc1 M1
    have SL := fun (w' : World) (h : Rd .u8 w' ay ys.length ys) => specLinesIn_any ay ys.length cy ys w' h (by omega)
    have IB := fun (w' : World) (I : Int) (h : Rd .u8 w' ay ys.length ys) => implLineBytes_any ay ys.length cy I ys w' h hyb (by omega) hc1 M1
    have b1 : ∀ o, Below w1.heap.size w1 (w1.alloc o) := fun o => (Below.refl _ _).alloc (Nat.le_refl _) o
    clear hc1 hm1 M1
    by_cases hlen : ys.length ≤ 400
    · have e1 : linCode ys = 0 := by unfold linCode; rw [if_neg (by omega)]
      have e2 : linRes ys = lns ys := by unfold linRes; rw [if_neg (by omega)]
      have hll := lns_len ys
      rw [e1, e2] at IL
      have HIL : Hid _ := IL
      have HIB : Hid _ := IB
      clear e1 e2 SL IL IB
      go_wp2_with fail
      refine Calls.mono (HIL.out _ (oy.below (b1 _)).read) ?_
      rintro e w2 ⟨v2, rfl, ol, hb2⟩
      obtain ⟨al, cl, rfl, _⟩ := ol.shape lineE_len
      have cF : w2.cell? ⟨w1.heap.size, 0, none⟩ = some (.slice ay ys.length cy) := cell_later hb2 (by simp [go_sem])
      have s2 : w1.heap.size + 1 ≤ w2.heap.size := by have := hb2.size; simp at this; omega
      have b12 := (b1 _).trans (hb2.mono (b1 _).size)
      have oy2 := oy.below b12
      have hb02 := hb1.trans (b12.mono hb1.size)
      clear HIL hb2 b1 b12 oy hb1
      -- the list of lines, and what is put together
      have oA := RowI.of (k := .u8) (own_lit (k := .u8) (e := 5) (w2.alloc (.cells #[.int .i64 0, .slice al (lns ys).length cl] 45)) #[] 0 (w2.heap.size + 1) [] rfl rfl (by simp) (by simp [maxLen]))
      rw [World.size_alloc] at oA
      have cF3 : (w2.alloc (.cells #[.int .i64 0, .slice al (lns ys).length cl] 45)).cell? ⟨w1.heap.size, 0, none⟩ = some (.slice ay ys.length cy) := cell_later ((Below.refl _ _).alloc (Nat.le_refl _) _) cF
      have cR3 : (w2.alloc (.cells #[.int .i64 0, .slice al (lns ys).length cl] 45)).cell? ⟨w2.heap.size, 1, none⟩ = some (.slice al (lns ys).length cl) := by simp [go_sem]
      have oy3 := oy2.below ((Below.refl _ _).alloc (Nat.le_refl _) (.cells #[.int .i64 0, .slice al (lns ys).length cl] 45))
      have ol3 := ol.below ((Below.refl _ _).alloc (Nat.le_refl _) (.cells #[.int .i64 0, .slice al (lns ys).length cl] 45))
      have hb03 := hb02.alloc hb02.size (.cells #[.int .i64 0, .slice al (lns ys).length cl] 45)
      have s3 : (w2.alloc (.cells #[.int .i64 0, .slice al (lns ys).length cl] 45)).heap.size = w2.heap.size + 1 := by simp
      go_wp2
      generalize (w2.alloc (.cells #[.int .i64 0, .slice al (lns ys).length cl] 45)) = w3 at *
      clear cF oy2 ol hb02
      go_loopw [5, 6, 7, 8] (fun A K P Q wr => ∃ (i f : Nat), LnInv ys i f ∧ i ≤ (lns ys).length ∧ K = .int .i64 i ∧ RowI .u8 5 wr (w2.heap.size + 1) wr.heap.size A f ((ys ++ [10]).take f) ∧ Below w3.heap.size w3 wr) (fun _ K _ _ _ => (lns ys).length - (intOf K).toNat)
      case atStart => exact ⟨0, 0, LnInv.zero ys, by omega, rfl, by have h := oA; rw [s3] at h; simpa [s3] using h, (Below.refl _ _).alloc (Nat.le_refl _) _⟩
      case round =>
        obtain ⟨i, f, hI, him, rfl, oA, hbr⟩ := hrel
        obtain ⟨aA, kA, rfl, hkA, hkM⟩ := oA.shape
        have HKA : Hid _ := And.intro hkA hkM
        clear hkA hkM
        have cFr := cell_later hbr cF3
        have cRr := cell_later hbr cR3
        have oyr := oy3.below hbr
        have olr := ol3.below hbr
        have szr := hbr.size
        by_cases hil : i < (lns ys).length
        · obtain ⟨z, hfz, hfn, hget, hI', hno, hstep⟩ := hI.step hil
          have e0 : lbCode ys (i : Int) = 0 := by unfold lbCode; rw [if_neg (by omega), if_neg (by omega)]
          have e2 : lbRes ys (i : Int) = (ys.drop f).take z := by unfold lbRes; rw [if_pos e0, Int.toNat_natCast, List.getD_eq_getElem?_getD, hget]; simp [cutOf]
          have e3 : ((ys.drop f).take z).length = z := by simp; omega
          have C := HIB.out wr (i : Int) oyr.read
          rw [e0, e2, e3] at C
          have HC : Hid _ := C
          have HI : Hid _ := hI'
          have HN : Hid _ := hno
          have HST : Hid _ := hstep
          obtain ⟨bl, ofl, x, hal, hx, hcc⟩ := (olr.read lineE_len).at hil
          subst hal
          rw [hget] at hx
          obtain rfl := Option.some.inj hx
          have hL0 := hcc 0 _ rfl
          have hL1 := hcc 1 _ rfl
          rw [Nat.add_zero] at hL0
          simp only at hL0 hL1
          have hil' : (i : Int) < ((lns ys).length : Int) := by omega
          have hz4 : z ≤ 400 := by omega
          have hf4 : f ≤ 400 := by omega
          clear e0 e2 C hI' hno hstep hcc hx hget hI cF3 cR3 oy3 ol3
          go_wp2_with fail
          refine Calls.mono HC.out ?_
          rintro e w4 ⟨v4, rfl, o4, hb4⟩
          obtain ⟨a4, k4, rfl, _⟩ := o4.shape
          have cF4 := cell_later hb4 cFr
          have cR4 := cell_later hb4 cRr
          have hL04 := cell_later hb4 hL0
          have hL14 := cell_later hb4 hL1
          have oA4 := oA.below hb4
          have s4 := hb4.size
          have hb34 := hbr.trans (hb4.mono szr)
          have zR : w2.heap.size < w4.heap.size := by omega
          have zF : w1.heap.size < w4.heap.size := by omega
          have zL : bl < w4.heap.size := World.block_lt_of_cell? _ _ hL04
          clear HC hb4 cFr cRr hL0 hL1 oA
          go_wp2
          go_quiet (fail)
          go_wp2
          go_loop [8] (fun K => ∃ k : Nat, k ≤ z ∧ K = .int .i64 k) (fun K => z - (intOf K).toNat)
          case atStart => exact ⟨0, by omega, rfl⟩
          case round =>
            obtain ⟨k, hk, rfl⟩ := hrel
            by_cases hkz : k < z
            · have hkz' : (k : Int) < (z : Int) := by omega
              obtain ⟨bz, oz, rfl, hcz⟩ := o4.read.at hkz
              have hck := hcz k hkz
              have hne := HN.out (((ys.drop f).take z).getD k 0) (by
                rw [List.getD_eq_getElem?_getD, List.getElem?_eq_getElem (by omega)]
                exact List.getElem_mem _)
              have zB : bz < w4.heap.size := World.block_lt_of_cell? _ _ hck
              have zB' : ¬ bz = w4.heap.size := by omega
              clear hcz
              generalize ((ys.drop f).take z).getD k 0 = x at *
              have hne' : (x == 10) = false := by simpa using hne
              go_wp2
              go_round
              case rel => exact ⟨k + 1, by omega, by go_num⟩
              case measure => simp [intOf]; omega
            · have bd : ∀ q, Below w4.heap.size w4 ((w4.alloc (.cells #[.int .i64 0, .slice a4 z k4] 35)).drewN q) := fun q => below_drewN ((Below.refl _ _).alloc (Nat.le_refl _) _) q
              have oAb := fun q => oA4.below (bd q)
              have o4b := fun q => (o4.below (bd q)).read
              have s4b : ∀ q, w4.heap.size + 1 = ((w4.alloc (.cells #[.int .i64 0, .slice a4 z k4] 35)).drewN q).heap.size := fun q => by simp [World.drewN]
              have hb3b := fun q => hb34.trans ((bd q).mono hb34.size)
              have OAB : Hid _ := oAb
              have O4B : Hid _ := o4b
              have HB3B : Hid _ := hb3b
              clear bd oAb o4b hb3b oA4 o4 hb34
              go_wp2_with (at_builtin; refine wpList_append_rd rfl _ _ 22 rfl .u8 (w2.heap.size + 1) 5 i0 1 Try.underlying22 hi hz0 hz1 hz2 _ f _ rfl (OAB.out nq).1 a4 z k4 _ rfl (O4B.out nq) (by unfold maxLen; omega) (by omega) (by rw [← s4b]; omega) ?_)
              intro v5 w5 o5 hg5
              have lo5 := (OAB.out nq).1.lt
              have hb5 := (HB3B.out nq).grown hg5 (HB3B.out nq).size (fun j hj => by have := (lo5 j hj).1; omega)
              obtain ⟨a5, k5, hv5, _⟩ := o5.rd
              subst hv5
              have s5 := hb5.size
              clear hg5 lo5 OAB O4B HB3B
              go_wp2_with (at_builtin; refine wpList_append_rd rfl _ _ 22 rfl .u8 (w2.heap.size + 1) 5 i0 1 Try.underlying22 hi hz0 hz1 hz2 _ _ _ rfl (World.ownsRow.alloc o5 _) (some ⟨w5.heap.size, 0, none⟩) 1 1 [10] rfl (lit_rd w5 [10] 1 rfl (by simp [maxLen])) (by unfold maxLen; omega) (by omega) (by simp; omega) ?_)
              intro v6 w6 o6 hg6
              have lo6 := o5.lt
              have hb6 := hb5.grown (grownBy_alloc_trans hg6) hb5.size (fun j hj => by have := (lo6 j hj).1; omega)
              have o7 : RowI .u8 5 w6 (w2.heap.size + 1) w6.heap.size v6 (f + z + 1) ((ys ++ [10]).take (f + z + 1)) := RowI.of (by
                rw [HST.out]
                first | exact o6 | (rw [List.append_assoc]; exact o6))
              clear hg6 lo6 o5 o6 hb5
              go_wp2
              go_roundw
              case rel => exact ⟨i + 1, f + z + 1, HI.out, by omega, by go_num, o7, hb6⟩
              case measure => simp [intOf]; omega
        · have hend := hI.end (by omega)
          have hb0r : Below w.heap.size w wr := hb03.trans (hbr.mono hb03.size)
          have hil' : ¬ (i : Int) < ((lns ys).length : Int) := by omega
          clear HIB hb03 olr cF3 cR3 oy3 ol3
          go_wp2_with fail
          refine Calls.mono (DrawLineBytes_any a n ca xs _ (ha.below hb0r) hB hn) ?_
          rintro e w5 ⟨v5, gs, I, rfl, og, hgl, hgb, hb5⟩
          obtain ⟨ag, kg, rfl, hcg, hmg⟩ := og.shape
          have Mg : kg ≤ 9223372036854775807 := by unfold maxLen at hmg; omega
          have IG : ∀ (w' : World), Rd .u8 w' ag gs.length gs → Calls Try.prog 28 #[.agg #[.slice ag gs.length kg], .int .i64 I] w' fun e w'' => ∃ v, e = .returned (.agg #[.int .i64 (lbCode gs I), v]) ∧ Below w'.heap.size w' w'' := fun w' h => (implLineBytes_any ag gs.length kg I gs w' h hgb (by omega) hcg Mg).mono fun e w'' ⟨v, h1, _, h3⟩ => ⟨v, h1, h3⟩
          have SG : ∀ (w' : World), Rd .u8 w' ag gs.length gs → Calls Try.prog 30 #[.agg #[.slice ag gs.length kg], .int .i64 I] w' fun e w'' => ∃ v, e = .returned (.agg #[.int .i64 (lbCode gs I), v]) ∧ Below w'.heap.size w' w'' := fun w' h => (specLineBytes_any ag gs.length kg I gs w' h (by omega) hcg hmg).mono fun e w'' ⟨v, h1, _, h3⟩ => ⟨v, h1, h3⟩
          generalize lbCode gs I = lc at *
          have HIG : Hid _ := IG
          have HSG : Hid _ := SG
          clear IG SG hcg hmg Mg
          have cF5 := cell_later hb5 cFr
          have oA5 := oA.below hb5
          have oy5 := oyr.below hb5
          have s5 := hb5.size
          have hb05 := hb0r.trans (hb5.mono hb0r.size)
          have zF5 : w1.heap.size < w5.heap.size := by omega
          have bg : ∀ o, Below w5.heap.size w5 (w5.alloc o).drew := fun o => ((Below.refl _ _).alloc (Nat.le_refl _) _).drew
          have fB := fldB0
          clear hb5 cFr cRr oA oyr hb0r hbr
          go_wp2_with fail
          refine wp_region_held_drew (S := fun w' => w'.cell? ⟨w5.heap.size, 0, none⟩ = some (.slice ag gs.length kg)) (by kernel_rfl) (by simp [go_sem]) (fun hS => ?_)
          refine wpAnyH_take (i := 0) (v := (.agg #[.slice ag gs.length kg])) rfl (by kernel_rfl) (by kernel_rfl) (by kernel_rfl) (fun _ _ _ h => h) (Or.inl ⟨by rfl, ?_⟩) hS ?_
          · intro w hSw; (try dsimp only at hSw); go_simp
          simp only [Act.put, List.getElem_toArray, List.getElem_cons_zero, List.getElem_cons_succ, List.setIfInBounds_toArray, List.set_cons_zero, List.set_cons_succ]
          refine wpAnyH_take (i := 1) (v := (.int .i64 I)) rfl (by kernel_rfl) (by kernel_rfl) (by kernel_rfl) (fun _ _ _ h => h) (Or.inl ⟨by rfl, ?_⟩) hS ?_
          · intro w hSw; (try dsimp only at hSw); go_simp
          simp only [Act.put, List.getElem_toArray, List.getElem_cons_zero, List.getElem_cons_succ, List.setIfInBounds_toArray, List.set_cons_zero, List.set_cons_succ]
          refine wpAnyH_take (i := 4) (v := (.agg #[.slice ag gs.length kg])) rfl (by kernel_rfl) (by kernel_rfl) (by kernel_rfl) (fun _ _ _ h => h) (Or.inl ⟨by rfl, ?_⟩) hS ?_
          · intro w hSw; (try dsimp only at hSw); go_simp
          simp only [Act.put, List.getElem_toArray, List.getElem_cons_zero, List.getElem_cons_succ, List.setIfInBounds_toArray, List.set_cons_zero, List.set_cons_succ]
          refine wpAnyH_take (i := 5) (v := (.int .i64 I)) rfl (by kernel_rfl) (by kernel_rfl) (by kernel_rfl) (fun _ _ _ h => h) (Or.inl ⟨by rfl, ?_⟩) hS ?_
          · intro w hSw; (try dsimp only at hSw); go_simp
          simp only [Act.put, List.getElem_toArray, List.getElem_cons_zero, List.getElem_cons_succ, List.setIfInBounds_toArray, List.set_cons_zero, List.set_cons_succ]
          refine wpAnyH_ready (rs := [2]) (by kernel_rfl) (by simp) ?_
          refine AllReadyH.cons rfl (fun K hK => ?_) AllReadyH.nil
          go_simp
          refine Calls.mono (HIG.out _ (og.below (bg _)).read) ?_
          rintro e w6 ⟨v6, rfl, hb6⟩
          refine hK.out _ _ (cell_later hb6 hS) (fun hS => ?_)
          clear hK K
          have b56 := (bg _).trans (hb6.mono (bg _).size)
          refine wpAnyH_take (i := 3) (v := (.int .i64 lc)) rfl (by kernel_rfl) (by kernel_rfl) (by kernel_rfl) (fun _ _ _ h => h) (Or.inl ⟨by rfl, ?_⟩) hS ?_
          · intro w hSw; (try dsimp only at hSw); go_simp
          simp only [Act.put, List.getElem_toArray, List.getElem_cons_zero, List.getElem_cons_succ, List.setIfInBounds_toArray, List.set_cons_zero, List.set_cons_succ]
          refine wpAnyH_ready (rs := [6]) (by kernel_rfl) (by simp) ?_
          refine AllReadyH.cons rfl (fun K hK => ?_) AllReadyH.nil
          go_simp
          refine Calls.mono (HSG.out _ (og.below b56).read) ?_
          rintro e w7 ⟨v7, rfl, hb7⟩
          refine hK.out _ _ (cell_later hb7 hS) (fun hS => ?_)
          clear hK K
          have b57 := b56.trans (hb7.mono b56.size)
          refine wpAnyH_take (i := 7) (v := (.int .i64 lc)) rfl (by kernel_rfl) (by kernel_rfl) (by kernel_rfl) (fun _ _ _ h => h) (Or.inl ⟨by rfl, ?_⟩) hS ?_
          · intro w hSw; (try dsimp only at hSw); go_simp
          simp only [Act.put, List.getElem_toArray, List.getElem_cons_zero, List.getElem_cons_succ, List.setIfInBounds_toArray, List.set_cons_zero, List.set_cons_succ]
          refine wpAnyH_take (i := 8) (v := (.bool false)) rfl (by kernel_rfl) (by kernel_rfl) (by kernel_rfl) (fun _ _ _ h => h) (Or.inl ⟨by rfl, ?_⟩) hS ?_
          · intro w hSw; (try dsimp only at hSw); go_simp
          simp only [Act.put, List.getElem_toArray, List.getElem_cons_zero, List.getElem_cons_succ, List.setIfInBounds_toArray, List.set_cons_zero, List.set_cons_succ]
          refine wpAnyH_done (by kernel_rfl) ?_ _
          have cF7 := cell_later b57 cF5
          have oA7 := oA5.below b57
          have oy7 := oy5.below b57
          have hb07 := hb05.trans (b57.mono hb05.size)
          clear hS hb6 hb7 b56 b57 bg HIG HSG og fB cF5 oA5 oy5 hb05
          rcases hend with hf | hf
          · subst hf
            obtain ⟨hw1, hw2⟩ := hI.whole
            have hrA : Rd .u8 w7 aA ys.length ys := by have h := oA7.read; rw [hw1] at h; exact h
            have hrY := oy7.read
            by_cases h0 : ys.length = 0
            · have h0' : ¬ (0 : Int) < (ys.length : Int) := by omega
              clear h0 hw1 hw2 hI
              go_wp2_with fail
              refine (lwSame_yes aA ay ys.length kA cy ys _ hrA hrY).mono ?_
              rintro e w8 ⟨rfl, rfl⟩
              go_wp2
              go_ret
              exact ⟨rfl, hb07⟩
            · have hlast := hw2 (by omega)
              obtain ⟨p, hp⟩ : ∃ p, ys.length = p + 1 := ⟨ys.length - 1, by omega⟩
              obtain ⟨gy, oy', hay, hcy⟩ := hrY.at (show p < ys.length by omega)
              have hcl := hcy p (by omega)
              subst hay
              have hpi : ((ys.length : Int) - 1).toNat = p := by omega
              have hpi0 : (0 : Int) ≤ (ys.length : Int) - 1 := by omega
              have hpi1 : (ys.length : Int) - 1 < (ys.length : Int) := by omega
              have hn0 : (0 : Int) < (ys.length : Int) := by omega
              have HP : Hid _ := hp
              clear hcy hp
              rw [show ys.length - 1 = p by have := HP.out; omega] at hlast
              rw [hlast] at hcl
              clear h0 hw1 hw2 hI hlast
              go_wp2_with fail
              refine (lwSame_yes aA _ ys.length kA cy ys _ hrA hrY).mono ?_
              rintro e w8 ⟨rfl, rfl⟩
              go_wp2
              go_ret
              exact ⟨rfl, hb07⟩
          · subst hf
            obtain ⟨hw1, hw2, hw3⟩ := hI.more
            have hrA : Rd .u8 w7 aA ys.length ys := by
              have h := oA7.read
              rw [hw1] at h
              have h2 := h.cut 0 ys.length (by omega) aA (fun _ g off h => by simpa using h)
              simpa using h2
            have hrY := oy7.read
            obtain ⟨p, hp⟩ : ∃ p, ys.length = p + 1 := ⟨ys.length - 1, by omega⟩
            obtain ⟨gy, oy', hay, hcy⟩ := hrY.at (show p < ys.length by omega)
            have hcl := hcy p (by omega)
            subst hay
            have hpi : ((ys.length : Int) - 1).toNat = p := by omega
            have hpi0 : (0 : Int) ≤ (ys.length : Int) - 1 := by omega
            have hpi1 : (ys.length : Int) - 1 < (ys.length : Int) := by omega
            have hn0 : (0 : Int) < (ys.length : Int) := by omega
            have HP : Hid _ := hp
            clear hcy hp
            rw [show ys.length - 1 = p by have := HP.out; omega] at hw3
            generalize ys.getD p 0 = x at *
            have hw3' : (x == 10) = false := by simpa using hw3
            have hw3'' : (x != 10) = true := by simpa using hw3
            clear hw1 hw2 hI
            have hk1 := HKA.out.1
            have hk2 := HKA.out.2
            unfold maxLen at hk2
            have hk3 : ys.length ≤ kA := by omega
            have hwr : IntKind.i64.wrap ((ys.length : Int) + 1) = (ys.length : Int) + 1 := by rw [IntKind.wrap_i64]; omega
            have hk4 : (ys.length : Int) ≤ (kA : Int) := by omega
            go_wp2_with fail
            refine wp_region_held_drew (S := fun w' => w'.cell? ⟨w1.heap.size, 0, none⟩ = some (.slice (some ⟨gy, oy', none⟩) ys.length cy)) (by kernel_rfl) cF7 (fun hS => ?_)
            refine wpAnyH_take (i := 0) (v := (.slice aA (ys.length + 1) kA)) rfl (by kernel_rfl) (by kernel_rfl) (by kernel_rfl) (fun _ _ _ h => h) (Or.inl ⟨by rfl, ?_⟩) hS ?_
            · intro w hSw; (try dsimp only at hSw); go_simp
            simp only [Act.put, List.getElem_toArray, List.getElem_cons_zero, List.getElem_cons_succ, List.setIfInBounds_toArray, List.set_cons_zero, List.set_cons_succ]
            refine wpAnyH_take (i := 1) (v := (.int .i64 ((ys.length : Int) + 1))) rfl (by kernel_rfl) (by kernel_rfl) (by kernel_rfl) (fun _ _ _ h => h) (Or.inl ⟨by rfl, ?_⟩) hS ?_
            · intro w hSw; (try dsimp only at hSw); go_simp
            simp only [Act.put, List.getElem_toArray, List.getElem_cons_zero, List.getElem_cons_succ, List.setIfInBounds_toArray, List.set_cons_zero, List.set_cons_succ]
            refine wpAnyH_take (i := 2) (v := (.int .i64 (ys.length : Int))) rfl (by kernel_rfl) (by kernel_rfl) (by kernel_rfl) (fun _ _ _ h => h) (Or.inl ⟨by rfl, ?_⟩) hS ?_
            · intro w hSw; (try dsimp only at hSw); go_simp
            simp only [Act.put, List.getElem_toArray, List.getElem_cons_zero, List.getElem_cons_succ, List.setIfInBounds_toArray, List.set_cons_zero, List.set_cons_succ]
            refine wpAnyH_take (i := 3) (v := (.int .i64 ((ys.length : Int) + 1))) rfl (by kernel_rfl) (by kernel_rfl) (by kernel_rfl) (fun _ _ _ h => h) (Or.inl ⟨by rfl, ?_⟩) hS ?_
            · intro w hSw; (try dsimp only at hSw); go_simp
            simp only [Act.put, List.getElem_toArray, List.getElem_cons_zero, List.getElem_cons_succ, List.setIfInBounds_toArray, List.set_cons_zero, List.set_cons_succ]
            refine wpAnyH_take (i := 4) (v := (.bool true)) rfl (by kernel_rfl) (by kernel_rfl) (by kernel_rfl) (fun _ _ _ h => h) (Or.inl ⟨by rfl, ?_⟩) hS ?_
            · intro w hSw; (try dsimp only at hSw); go_simp
            simp only [Act.put, List.getElem_toArray, List.getElem_cons_zero, List.getElem_cons_succ, List.setIfInBounds_toArray, List.set_cons_zero, List.set_cons_succ]
            refine wpAnyH_take (i := 5) (v := (.bool true)) rfl (by kernel_rfl) (by kernel_rfl) (by kernel_rfl) (fun _ _ _ h => h) (Or.inl ⟨by rfl, ?_⟩) hS ?_
            · intro w hSw; (try dsimp only at hSw); go_simp
            simp only [Act.put, List.getElem_toArray, List.getElem_cons_zero, List.getElem_cons_succ, List.setIfInBounds_toArray, List.set_cons_zero, List.set_cons_succ]
            refine wpAnyH_take (i := 6) (v := (.slice aA (ys.length + 1) kA)) rfl (by kernel_rfl) (by kernel_rfl) (by kernel_rfl) (fun _ _ _ h => h) (Or.inl ⟨by rfl, ?_⟩) hS ?_
            · intro w hSw; (try dsimp only at hSw); go_simp
            simp only [Act.put, List.getElem_toArray, List.getElem_cons_zero, List.getElem_cons_succ, List.setIfInBounds_toArray, List.set_cons_zero, List.set_cons_succ]
            refine wpAnyH_take (i := 7) (v := (.int .i64 (ys.length : Int))) rfl (by kernel_rfl) (by kernel_rfl) (by kernel_rfl) (fun _ _ _ h => h) (Or.inl ⟨by rfl, ?_⟩) hS ?_
            · intro w hSw; (try dsimp only at hSw); go_simp
            simp only [Act.put, List.getElem_toArray, List.getElem_cons_zero, List.getElem_cons_succ, List.setIfInBounds_toArray, List.set_cons_zero, List.set_cons_succ]
            refine wpAnyH_take (i := 8) (v := (.slice aA ys.length kA)) rfl (by kernel_rfl) (by kernel_rfl) (by kernel_rfl) (fun _ _ _ h => h) (Or.inl ⟨by rfl, ?_⟩) hS ?_
            · intro w hSw; (try dsimp only at hSw); go_simp
            simp only [Act.put, List.getElem_toArray, List.getElem_cons_zero, List.getElem_cons_succ, List.setIfInBounds_toArray, List.set_cons_zero, List.set_cons_succ]
            refine wpAnyH_take (i := 9) (v := (.pointer (some ⟨w1.heap.size, 0, none⟩))) rfl (by kernel_rfl) (by kernel_rfl) (by kernel_rfl) (fun _ _ _ h => h) (Or.inl ⟨by rfl, ?_⟩) hS ?_
            · intro w hSw; (try dsimp only at hSw); go_simp
            simp only [Act.put, List.getElem_toArray, List.getElem_cons_zero, List.getElem_cons_succ, List.setIfInBounds_toArray, List.set_cons_zero, List.set_cons_succ]
            refine wpAnyH_take (i := 10) (v := (.slice (some ⟨gy, oy', none⟩) ys.length cy)) rfl (by kernel_rfl) (by kernel_rfl) (by kernel_rfl) (fun _ _ _ h => h) (Or.inl ⟨by rfl, ?_⟩) hS ?_
            · intro w hSw; (try dsimp only at hSw); go_simp
            simp only [Act.put, List.getElem_toArray, List.getElem_cons_zero, List.getElem_cons_succ, List.setIfInBounds_toArray, List.set_cons_zero, List.set_cons_succ]
            refine wpAnyH_ready (rs := [11]) (by kernel_rfl) (by simp) ?_
            refine AllReadyH.cons rfl (fun K hK => ?_) AllReadyH.nil
            go_simp
            refine Calls.mono (lwSame_yes aA _ ys.length kA cy ys _ (hrA.below (Below.refl _ _).drew) (hrY.below (Below.refl _ _).drew)) ?_
            rintro e w8 ⟨rfl, rfl⟩
            refine hK.out _ _ hS (fun hS => ?_)
            clear hK K
            refine wpAnyH_take (i := 12) (v := (.bool true)) rfl (by kernel_rfl) (by kernel_rfl) (by kernel_rfl) (fun _ _ _ h => h) (Or.inl ⟨by rfl, ?_⟩) hS ?_
            · intro w hSw; (try dsimp only at hSw); go_simp
            simp only [Act.put, List.getElem_toArray, List.getElem_cons_zero, List.getElem_cons_succ, List.setIfInBounds_toArray, List.set_cons_zero, List.set_cons_succ]
            refine wpAnyH_take (i := 13) (v := (.bool true)) rfl (by kernel_rfl) (by kernel_rfl) (by kernel_rfl) (fun _ _ _ h => h) (Or.inl ⟨by rfl, ?_⟩) hS ?_
            · intro w hSw; (try dsimp only at hSw); go_simp
            simp only [Act.put, List.getElem_toArray, List.getElem_cons_zero, List.getElem_cons_succ, List.setIfInBounds_toArray, List.set_cons_zero, List.set_cons_succ]
            refine wpAnyH_done (by kernel_rfl) ?_ _
            clear hS
            go_wp2
            go_ret
            exact ⟨rfl, hb07.drew⟩
    · have e1 : linCode ys = 2 := by unfold linCode; rw [if_pos (by omega)]
      have SL2 : ∀ w', Rd .u8 w' ay ys.length ys → Calls Try.prog 27 #[.agg #[.slice ay ys.length cy]] w' fun e w'' => ∃ v, e = .returned (.agg #[.int .i64 2, v]) ∧ Below w'.heap.size w' w'' := by
        intro w' h
        have := SL w' h
        rw [e1] at this
        exact this.mono (fun e w'' ⟨v, h1, _, h3⟩ => ⟨v, h1, h3⟩)
      rw [e1] at IL
      have HIL : Hid _ := IL
      have HSL : Hid _ := SL2
      clear e1 SL SL2 IL IB
      go_wp2_with fail
      refine Calls.mono (HIL.out _ (oy.below (b1 _)).read) ?_
      rintro e w2 ⟨v2, rfl, ol, hb2⟩
      obtain ⟨al, cl, rfl, _⟩ := ol.shape lineE_len
      have cF : w2.cell? ⟨w1.heap.size, 0, none⟩ = some (.slice ay ys.length cy) := cell_later hb2 (by simp [go_sem])
      have s2 : w1.heap.size + 1 ≤ w2.heap.size := by have := hb2.size; simp at this; omega
      have b12 := (b1 _).trans (hb2.mono (b1 _).size)
      have oy2 := oy.below b12
      have hb02 := hb1.trans (b12.mono hb1.size)
      have zF : w1.heap.size < w2.heap.size := by omega
      have b2 : ∀ o, Below w2.heap.size w2 (w2.alloc o).drew := fun o => ((Below.refl _ _).alloc (Nat.le_refl _) _).drew
      have fL := fldL0
      clear HIL hb2 b1 b12 oy hb1 ol
      generalize (linRes ys).length = m at *
      go_wp2_with fail
      refine wp_region_held_drew (S := fun w' => w'.cell? ⟨w1.heap.size, 0, none⟩ = some (.slice ay ys.length cy) ∧ w'.cell? ⟨w2.heap.size, 0, none⟩ = some (.int .i64 2)) (by kernel_rfl) ⟨cell_later (b2 _) cF, by simp [go_sem]⟩ (fun hS => ?_)
      refine wpAnyH_take (i := 0) (v := (.agg #[.slice ay ys.length cy])) rfl (by kernel_rfl) (by kernel_rfl) (by kernel_rfl) (fun _ _ _ h => h) (Or.inl ⟨by rfl, ?_⟩) hS ?_
      · intro w hSw; (try dsimp only at hSw); go_simp
      simp only [Act.put, List.getElem_toArray, List.getElem_cons_zero, List.getElem_cons_succ, List.setIfInBounds_toArray, List.set_cons_zero, List.set_cons_succ]
      refine wpAnyH_take (i := 3) (v := (.pointer (some ⟨w2.heap.size, 0, none⟩))) rfl (by kernel_rfl) (by kernel_rfl) (by kernel_rfl) (fun _ _ _ h => h) (Or.inl ⟨by rfl, ?_⟩) hS ?_
      · intro w hSw; (try dsimp only at hSw); go_simp
      simp only [Act.put, List.getElem_toArray, List.getElem_cons_zero, List.getElem_cons_succ, List.setIfInBounds_toArray, List.set_cons_zero, List.set_cons_succ]
      refine wpAnyH_take (i := 4) (v := (.int .i64 2)) rfl (by kernel_rfl) (by kernel_rfl) (by kernel_rfl) (fun _ _ _ h => h) (Or.inl ⟨by rfl, ?_⟩) hS ?_
      · intro w hSw; (try dsimp only at hSw); go_simp
      simp only [Act.put, List.getElem_toArray, List.getElem_cons_zero, List.getElem_cons_succ, List.setIfInBounds_toArray, List.set_cons_zero, List.set_cons_succ]
      refine wpAnyH_ready (rs := [1]) (by kernel_rfl) (by simp) ?_
      refine AllReadyH.cons rfl (fun K hK => ?_) AllReadyH.nil
      go_simp
      refine Calls.mono (HSL.out _ (oy2.below (b2 _)).read) ?_
      rintro e w3 ⟨v3, rfl, hb3⟩
      refine hK.out _ _ ⟨cell_later hb3 hS.1, cell_later hb3 hS.2⟩ (fun hS => ?_)
      clear hK K
      have hb03 := hb02.trans (((b2 _).trans (hb3.mono (b2 _).size)).mono hb02.size)
      refine wpAnyH_take (i := 2) (v := (.int .i64 2)) rfl (by kernel_rfl) (by kernel_rfl) (by kernel_rfl) (fun _ _ _ h => h) (Or.inl ⟨by rfl, ?_⟩) hS ?_
      · intro w hSw; (try dsimp only at hSw); go_simp
      simp only [Act.put, List.getElem_toArray, List.getElem_cons_zero, List.getElem_cons_succ, List.setIfInBounds_toArray, List.set_cons_zero, List.set_cons_succ]
      refine wpAnyH_take (i := 5) (v := (.bool true)) rfl (by kernel_rfl) (by kernel_rfl) (by kernel_rfl) (fun _ _ _ h => h) (Or.inl ⟨by rfl, ?_⟩) hS ?_
      · intro w hSw; (try dsimp only at hSw); go_simp
      simp only [Act.put, List.getElem_toArray, List.getElem_cons_zero, List.getElem_cons_succ, List.setIfInBounds_toArray, List.set_cons_zero, List.set_cons_succ]
      refine wpAnyH_take (i := 6) (v := (.bool true)) rfl (by kernel_rfl) (by kernel_rfl) (by kernel_rfl) (fun _ _ _ h => h) (Or.inl ⟨by rfl, ?_⟩) hS ?_
      · intro w hSw; (try dsimp only at hSw); go_simp
      simp only [Act.put, List.getElem_toArray, List.getElem_cons_zero, List.getElem_cons_succ, List.setIfInBounds_toArray, List.set_cons_zero, List.set_cons_succ]
      refine wpAnyH_done (by kernel_rfl) ?_ _
      clear hS hb3 b2 fL HSL oy2
      go_wp2
      go_ret
      exact ⟨rfl, hb03⟩
  · go_enter Try.func4, Try.ntmps4
    go_wp2
    go_ret
    exact ⟨rfl, Below.refl _ _⟩
end Go.Proofs.Ytjhlmhehojjgfaa.fnLines
