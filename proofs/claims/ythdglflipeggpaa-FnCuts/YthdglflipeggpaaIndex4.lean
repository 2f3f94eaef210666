/-
  ExtendIndex, of the specification and of the program.
-/
import Derived.Test.YthdglflipeggpaaIndex3
namespace Go.Proofs.Ythdglflipeggpaa
open Go.RowKit
set_option linter.unusedVariables false
set_option linter.unusedSimpArgs false

def exCode (E : Int) (ms : List Int) (L Z : Int) (xs : List Int) : Int := heardF E ms L Z xs.length
def exE (E : Int) (ms : List Int) (L Z : Int) (xs : List Int) : Int := if heardF E ms L Z xs.length = 0 then E else 0
def exM (E : Int) (ms : List Int) (L Z : Int) (xs : List Int) : List Int := if heardF E ms L Z xs.length = 0 then ms ++ hearM E L Z (xs.drop Z.toNat) else []
def exL (E : Int) (ms : List Int) (L Z : Int) (xs : List Int) : Int := if heardF E ms L Z xs.length = 0 then hearN L (xs.drop Z.toNat) else 0
def exZ (E : Int) (ms : List Int) (L Z : Int) (xs : List Int) : Int := if heardF E ms L Z xs.length = 0 then xs.length else 0

theorem exM_len (E : Int) (ms : List Int) (L Z : Int) (xs : List Int) : (exM E ms L Z xs).length ≤ 1000 := by
  unfold exM
  split
  · rename_i h
    obtain ⟨h1, h2, _⟩ := heardF_zero h
    obtain ⟨_, _, _, _, _, _, _, _, h3⟩ := index_ok h1
    have := hearM_len E L Z (xs.drop Z.toNat)
    simp at this ⊢
    omega
  · simp

set_option maxHeartbeats 400000 in
theorem l4Copy_any (E : Int) (a : Option Addr) (n ca : Nat) (ms : List Int) (L Z : Int) (w : World) (ha : Rd .i64 w a n ms) (h1 : n ≤ 1048576) :
    Calls Try.prog 69 #[.agg #[.int .i64 E, .slice a n ca, .int .i64 L, .int .i64 Z]] w fun e w' => ∃ v, e = .returned (.agg #[.int .i64 E, v, .int .i64 L, .int .i64 Z]) ∧ Own .i64 2 w' w.heap.size v n ms ∧ Below w.heap.size w w' := by
  obtain ⟨i0, hi, hz0, hz1, hz2⟩ := info_parts info64
  have hb : ∀ o1 o2 o3, Below w.heap.size w (((w.alloc o1).alloc o2).alloc o3) := fun o1 o2 o3 => (((Below.refl _ _).alloc (Nat.le_refl _) o1).alloc (by simp) o2).alloc (by simp; omega) o3
  have ho : ∀ o1 o2, Own .i64 2 (((w.alloc o1).alloc o2).alloc (.cells #[] 2)) (w.heap.size + 2) (.slice (some ⟨w.heap.size + 1 + 1, 0, none⟩) 0 0) 0 [] := fun o1 o2 => by
    have := own_lit (k := .i64) (e := 2) ((w.alloc o1).alloc o2) #[] 0 (w.heap.size + 2) [] rfl rfl (by simp) (by simp [maxLen])
    simpa using this
  go_enter Try.func69, Try.ntmps69
  go_wp2_with (at_builtin; refine wpList_append_rd rfl _ _ 24 rfl .i64 (w.heap.size + 2) 2 i0 8 Try.underlying24 hi hz0 hz1 hz2 _ 0 [] rfl (ho _ _) a n ca ms rfl (ha.below (hb _ _ _)) (by unfold maxLen; omega) (by omega) (by simp) ?_)
  intro v w1 ho1 hg1
  have hc1 := Chg.of_grown (lo := w.heap.size + 2) (hi := w.heap.size + 3) hg1 (fun j hj => by simp [Value.ownBlock] at hj; omega)
  have hs1 := hg1.size
  simp at hs1
  have hb1 := below_chg (hb _ _ _) hc1 (hb _ _ _).size (by omega)
  have d0 : w1.cell? ⟨w.heap.size, 0, none⟩ = some (.int .i64 E) := hc1.at (by simp [go_sem]) (by simp; omega) (by omega)
  have d1 : w1.cell? ⟨w.heap.size, 1, none⟩ = some (.slice a n ca) := hc1.at (by simp [go_sem]) (by simp; omega) (by omega)
  have d2 : w1.cell? ⟨w.heap.size, 2, none⟩ = some (.int .i64 L) := hc1.at (by simp [go_sem]) (by simp; omega) (by omega)
  have d3 : w1.cell? ⟨w.heap.size, 3, none⟩ = some (.int .i64 Z) := hc1.at (by simp [go_sem]) (by simp; omega) (by omega)
  have g0 : w1.cell? ⟨w.heap.size + 1, 0, none⟩ = some (.int .i64 0) := hc1.at (by simp [go_sem]) (by simp) (by omega)
  have g1 : w1.cell? ⟨w.heap.size + 1, 1, none⟩ = some (.slice none 0 0) := hc1.at (by simp [go_sem]) (by simp) (by omega)
  have g2 : w1.cell? ⟨w.heap.size + 1, 2, none⟩ = some (.int .i64 0) := hc1.at (by simp [go_sem]) (by simp) (by omega)
  have g3 : w1.cell? ⟨w.heap.size + 1, 3, none⟩ = some (.int .i64 0) := hc1.at (by simp [go_sem]) (by simp) (by omega)
  have df1 : w1.frozen? ⟨w.heap.size, 1, none⟩ = false := hc1.fr (by simp [go_sem]) (by simp; omega) (by omega)
  have gf0 : w1.frozen? ⟨w.heap.size + 1, 0, none⟩ = false := hc1.fr (by simp [go_sem]) (by simp) (by omega)
  have gf1 : w1.frozen? ⟨w.heap.size + 1, 1, none⟩ = false := hc1.fr (by simp [go_sem]) (by simp) (by omega)
  have gf2 : w1.frozen? ⟨w.heap.size + 1, 2, none⟩ = false := hc1.fr (by simp [go_sem]) (by simp) (by omega)
  have gf3 : w1.frozen? ⟨w.heap.size + 1, 3, none⟩ = false := hc1.fr (by simp [go_sem]) (by simp) (by omega)
  obtain ⟨a1, c1, hv1, -⟩ := ho1.rdc
  subst hv1
  have HO := hid ho1
  clear ho1 hg1 hc1
  go_wp2
  refine bodyPost_ret (v := .agg #[.int .i64 E, .slice a1 n c1, .int .i64 L, .int .i64 Z]) (by simp [results, Try.results69, go_sem, d0, d1, d2, d3, g0, g1, g2, g3]) rfl ⟨_, rfl, ?_, ?_⟩
  · exact Own.up (Own.setBelow (Own.setBelow (Own.setBelow (Own.setBelow (Own.setBelow HO.out (by simp) _) (by simp) _) (by simp) _) (by simp) _) (by simp) _) (by omega)
  · exact ((((hb1.setCell (by simp) _).setCell (by simp) _).setCell (by simp) _).setCell (by simp) _).setCell (by simp) _

theorem getD_drop (xs : List Int) (z k : Nat) : (xs.drop z).getD k 0 = xs.getD (z + k) 0 := by
  simp [List.getD_eq_getElem?_getD, List.getElem?_drop]

set_option maxRecDepth 20000 in
set_option maxHeartbeats 1600000 in
theorem l4Extend_any (E : Int) (a : Option Addr) (n ca : Nat) (ms : List Int) (L : Int) (z fb : Nat) (p : Option Addr) (m cp : Nat) (xs : List Int) (w : World) (ha : Rd .i64 w a n ms) (cf : w.cell? ⟨fb, 0, none⟩ = some (.slice p m cp)) (hp : Rd .u8 w p m xs)
    (hE1 : 1 ≤ E) (hE2 : E ≤ 9) (hL1 : 0 ≤ L) (hL2 : L ≤ 400) (hz : z ≤ m) (hm : m ≤ 401) (hn : n ≤ 400) :
    Calls Try.prog 59 #[.agg #[.int .i64 E, .slice a n ca, .int .i64 L, .int .i64 z], .pointer (some ⟨fb, 0, none⟩)] w fun e w' => ∃ v, e = .returned (.agg #[.int .i64 E, v, .int .i64 (hearN L (xs.drop z)), .int .i64 m]) ∧ Own .i64 2 w' w.heap.size v (ms ++ hearM E L z (xs.drop z)).length (ms ++ hearM E L z (xs.drop z)) ∧ Below w.heap.size w w' := by
  obtain ⟨i0, hi, hz0, hz1, hz2⟩ := info_parts info64
  have hlen := ha.1
  subst hlen
  have hxl := hp.1
  have hE0 : E ≠ 0 := by omega
  have B2 : ∀ o1 o2, Below w.heap.size w ((w.alloc o1).alloc o2) := fun o1 o2 => ((Below.refl _ _).alloc (Nat.le_refl _) o1).alloc (by simp) o2
  go_enter Try.func59, Try.ntmps59
  go_wp2_with fail
  refine (l4Copy_any E a ms.length ca ms L z _ (ha.below (B2 _ _)) (by omega)).mono ?_
  rintro e w1 ⟨v1, rfl, ho1, hb1⟩
  have hb01 := (B2 _ _).trans (hb1.mono (by simp; omega))
  have s1 : w.heap.size + 2 ≤ w1.heap.size := by have := hb1.size; simp at this; omega
  have e3 : ∀ o, (w1.alloc o).cell? ⟨w.heap.size, 3, none⟩ = some (.int .i64 z) := fun o => cell_later ((Below.refl _ _).alloc (Nat.le_refl _) o) (cell_later hb1 (by simp [go_sem]))
  have g0 : w1.cell? ⟨w.heap.size + 1, 0, none⟩ = some (.int .i64 0) := cell_later hb1 (by simp [go_sem])
  have g1 : w1.cell? ⟨w.heap.size + 1, 1, none⟩ = some (.slice none 0 0) := cell_later hb1 (by simp [go_sem])
  have g2 : w1.cell? ⟨w.heap.size + 1, 2, none⟩ = some (.int .i64 0) := cell_later hb1 (by simp [go_sem])
  have g3 : w1.cell? ⟨w.heap.size + 1, 3, none⟩ = some (.int .i64 0) := cell_later hb1 (by simp [go_sem])
  have gf0 : w1.frozen? ⟨w.heap.size + 1, 0, none⟩ = false := (hb1.frozen (p := ⟨w.heap.size + 1, 0, none⟩) (by simp)).trans (by simp [go_sem])
  have gf1 : w1.frozen? ⟨w.heap.size + 1, 1, none⟩ = false := (hb1.frozen (p := ⟨w.heap.size + 1, 1, none⟩) (by simp)).trans (by simp [go_sem])
  have gf2 : w1.frozen? ⟨w.heap.size + 1, 2, none⟩ = false := (hb1.frozen (p := ⟨w.heap.size + 1, 2, none⟩) (by simp)).trans (by simp [go_sem])
  have gf3 : w1.frozen? ⟨w.heap.size + 1, 3, none⟩ = false := (hb1.frozen (p := ⟨w.heap.size + 1, 3, none⟩) (by simp)).trans (by simp [go_sem])
  obtain ⟨a1, c1, hv1, -⟩ := ho1.rdc
  subst hv1
  have hu := Own.up (base' := w.heap.size + 2) ho1 (by simp)
  have HO := hid hu
  clear ho1 hu
  go_wp2
  obtain ⟨w2, hw2⟩ : ∃ w2, w2 = w1.alloc (.cells #[.int .i64 E, .slice a1 ms.length c1, .int .i64 L, .int .i64 z] 26) := ⟨_, rfl⟩
  rw [← hw2]
  have NB : Below w1.heap.size w1 w2 := by rw [hw2]; exact (Below.refl _ _).alloc (Nat.le_refl _) _
  have hbl : Blk w2 w1.heap.size #[.int .i64 E, .slice a1 ms.length c1, .int .i64 L, .int .i64 z] 26 := by rw [hw2]; exact Blk.new _ _ _
  have ho2 : Own .i64 2 w2 (w.heap.size + 2) (.slice a1 ms.length c1) ms.length ms := Own.below HO.out NB
  have hb2 := hb01.trans (NB.mono hb01.size)
  have r2 : ∀ i, w2.cell? ⟨w.heap.size + 1, i, none⟩ = w1.cell? ⟨w.heap.size + 1, i, none⟩ := fun i => World.cell?_of_block (NB.block (w.heap.size + 1) (by omega))
  have r3 : ∀ i, w2.frozen? ⟨w.heap.size + 1, i, none⟩ = w1.frozen? ⟨w.heap.size + 1, i, none⟩ := fun i => World.frozen?_of_block (NB.block (w.heap.size + 1) (by omega))
  rw [← r2] at g0 g1 g2 g3
  rw [← r3] at gf0 gf1 gf2 gf3
  have s2 : w.heap.size + 2 ≤ w2.heap.size := Nat.le_trans s1 NB.size
  have hq : w.heap.size + 2 ≤ w1.heap.size := s1
  clear hw2 NB r2 r3 HO
  generalize w1.heap.size = q at *
  clear e3 hb01 hb1 s1
  go_loopw [6] (fun i wr => ∃ (k : Nat) (Lk : Int) (M : List Int) (v : Value), k ≤ m - z ∧ i = .int .i64 ((z + k : Nat) : Int) ∧ Heard E L z ms (xs.drop z) k Lk M ∧ Blk wr q #[.int .i64 E, v, .int .i64 Lk, .int .i64 z] 26 ∧ Own .i64 2 wr (w.heap.size + 2) v M.length M ∧ Below w.heap.size w wr ∧ w.heap.size + 2 ≤ wr.heap.size ∧ (∀ i u, w2.cell? ⟨w.heap.size + 1, i, none⟩ = some u → wr.cell? ⟨w.heap.size + 1, i, none⟩ = some u) ∧ (∀ i, w2.frozen? ⟨w.heap.size + 1, i, none⟩ = false → wr.frozen? ⟨w.heap.size + 1, i, none⟩ = false)) (fun i _ => m - (intOf i).toNat)
  case atStart => exact ⟨0, L, ms, _, Nat.zero_le _, rfl, Heard.start _ _ _ _ _, hbl, ho2, hb2, s2, fun _ _ h => h, fun _ h => h⟩
  case round =>
    obtain ⟨k, Lk, M, v, hk, rfl, hh, hblk, ho, hbw, hlw, hkc, hkf⟩ := hrel
    have cf1 := cell_later hbw cf
    have hML := hh.2.2.1
    have hLk1 := hh.2.2.2.1
    have hLk2 := hh.2.2.2.2
    have x0 := hblk.cell 0
    have x1 := hblk.cell 1
    have x2 := hblk.cell 2
    have x3 := hblk.cell 3
    have f1 := hblk.frozen 1
    have f2 := hblk.frozen 2
    have f3 := hblk.frozen 3
    simp at x0 x1 x2 x3
    have HH : Hid (Heard E L z ms (xs.drop z) k Lk M) := hh
    by_cases hlt : z + k < m
    · have hlt' : ((z + k : Nat) : Int) < (m : Int) := by omega
      have hkl : k < (xs.drop z).length := by rw [List.length_drop]; omega
      obtain ⟨b1, o1, rfl, hc1⟩ := (hp.below hbw).at hlt
      have hk1 := hc1 (z + k) hlt
      clear hc1
      have hge := getD_drop xs z k
      rw [← hge] at hk1
      clear hge
      have hnr := hblk.not_row (by decide) ho
      have g2' := setCell_grown wr q 2 (.int .i64 (Lk + 1))
      have s2' := hblk.set (i := 2) (.int .i64 (Lk + 1))
      have o2' := Own.kept ho g2' (fun j hj e => hnr (by rw [hj, e]))
      have b2' : Below w.heap.size w (wr.setCell ⟨q, 2, none⟩ (.int .i64 (Lk + 1))) := hbw.setCell (by simp; omega) _
      have kc' : ∀ i u, w2.cell? ⟨w.heap.size + 1, i, none⟩ = some u → (wr.setCell ⟨q, 2, none⟩ (.int .i64 (Lk + 1))).cell? ⟨w.heap.size + 1, i, none⟩ = some u := fun i u h => grown_cell g2' (hkc i u h) (fun j hj => by cases hj; simp; omega)
      have kf' : ∀ i, w2.frozen? ⟨w.heap.size + 1, i, none⟩ = false → (wr.setCell ⟨q, 2, none⟩ (.int .i64 (Lk + 1))).frozen? ⟨w.heap.size + 1, i, none⟩ = false := fun i h => (World.frozen?_of_block (w := wr) (g2'.block (w.heap.size + 1) (by omega) (by simp; omega))).trans (hkf i h)
      have HBL := hid hblk
      have HO := hid ho
      have HKC := hid hkc
      have HKF := hid hkf
      have HS2 := hid s2'
      have HO2 := hid o2'
      have HKC2 := hid kc'
      have HKF2 := hid kf'
      clear hh hblk ho hkc hkf s2' o2' kc' kf' hnr g2'
      by_cases hbk : (xs.drop z).getD k 0 = 10
      · have HBK : Hid ((xs.drop z).getD k 0 = 10) := hbk
        rw [hbk] at hk1
        clear hbk
        have hw1 : IntKind.i64.wrap (Int.tmod (Lk + 1) E) = Int.tmod (Lk + 1) E := tmod_small (by omega) (by omega) hE1
        have y0 := HS2.out.cell 0
        have y1 := HS2.out.cell 1
        have y2 := HS2.out.cell 2
        simp at y0 y1 y2
        by_cases hmk : Int.tmod (Lk + 1) E = 0
        · have HM := hid hmk
          have hmd : E ∣ Lk + 1 := Int.dvd_of_tmod_eq_zero hmk
          clear hmk
          obtain ⟨av, cv, rfl, -⟩ := HO2.out.rdc
          have hz1' : ((z + k : Nat) : Int) + 1 = (z : Int) + (k : Int) + 1 := by omega
          have hl2 : w.heap.size + 2 ≤ (wr.setCell ⟨q, 2, none⟩ (.int .i64 (Lk + 1))).heap.size := by simpa [World.setCell] using hlw
          have hqlt := HS2.out.lt
          have rE := (own_lit (k := .i64) (e := 2) (wr.setCell ⟨q, 2, none⟩ (.int .i64 (Lk + 1))) #[.int .i64 ((z : Int) + k + 1)] 1 0 [(z : Int) + k + 1] rfl rfl (Nat.zero_le _) (by simp [maxLen])).read
          have oE := World.ownsRow.alloc HO2.out (.cells #[.int .i64 ((z : Int) + k + 1)] 2)
          have lE : w.heap.size + 2 ≤ ((wr.setCell ⟨q, 2, none⟩ (.int .i64 (Lk + 1))).alloc (.cells #[.int .i64 ((z : Int) + k + 1)] 2)).heap.size := by simp [World.setCell]; omega
          rw [show (wr.setCell ⟨q, 2, none⟩ (.int .i64 (Lk + 1))).heap.size = wr.heap.size by simp [World.setCell]] at rE
          have HRE := hid rE
          have HOE := hid oE
          have HLE := hid lE
          clear rE oE lE
          go_wp2_with (at_builtin; refine wpList_append_rd rfl _ _ 24 rfl .i64 (w.heap.size + 2) 2 i0 8 Try.underlying24 hi hz0 hz1 hz2 _ M.length M rfl HOE.out _ 1 1 [(z : Int) + k + 1] rfl HRE.out (by unfold maxLen; omega) (by omega) HLE.out ?_)
          intro v5 w5 ho5 hg5
          have bE := HS2.out.alloc (.cells #[.int .i64 ((z : Int) + k + 1)] 2)
          have hb5 := Blk.kept bE hg5 (bE.not_row (by decide) (World.ownsRow.alloc HO2.out _))
          have hlo := World.ownsRow.lt (World.ownsRow.alloc HO2.out (.cells #[.int .i64 ((z : Int) + k + 1)] 2))
          have hcg := Chg.of_grown (lo := w.heap.size + 2) (hi := wr.heap.size + 1) hg5 (fun j hj => by have := hlo j hj; simp [World.setCell] at this; omega)
          have uE := b2'.alloc b2'.size (.cells #[.int .i64 ((z : Int) + k + 1)] 2)
          have u5 := below_chg uE hcg uE.size (by omega)
          have hs5 := hg5.size
          simp [World.setCell] at hs5
          have kc5 : ∀ i u, w2.cell? ⟨w.heap.size + 1, i, none⟩ = some u → w5.cell? ⟨w.heap.size + 1, i, none⟩ = some u := fun i u h => hcg.at (cell_later ((Below.refl _ _).alloc (Nat.le_refl _) _) (HKC2.out i u h)) (by simp [World.setCell]; omega) (by omega)
          have kf5 : ∀ i, w2.frozen? ⟨w.heap.size + 1, i, none⟩ = false → w5.frozen? ⟨w.heap.size + 1, i, none⟩ = false := fun i h => hcg.fr ((((Below.refl _ _).alloc (Nat.le_refl _) _).frozen (p := ⟨w.heap.size + 1, i, none⟩) (by simp [World.setCell]; omega)).trans (HKF2.out i h)) (by simp [World.setCell]; omega) (by omega)
          obtain ⟨a5, c5, rfl, -⟩ := Own.rdc ho5
          have k1 := hb5.cell 1
          have kf1 := hb5.frozen 1
          simp at k1
          have hb6 := hb5.set (i := 1) (.slice a5 (M.length + 1) c5)
          have g6 := setCell_grown w5 q 1 (.slice a5 (M.length + 1) c5)
          have ho6 := Own.kept ho5 g6 (fun j hj e => hb5.not_row (by decide) ho5 (by rw [hj, e]))
          have HB6 := hid hb6
          have HO6 := hid ho6
          have HC5 := hid kc5
          have HF5 := hid kf5
          have HG6 := hid g6
          clear hb6 ho6 ho5 hg5 hb5 bE hcg hlo kc5 kf5 uE g6
          go_wp2
          go_roundw
          case rel =>
            refine ⟨k + 1, Lk + 1, M ++ [(z : Int) + k + 1], .slice a5 (M.length + 1) c5, by omega, by go_num, Heard.mark HH.out hkl HBK.out HM.out, by simpa using HB6.out, by rw [List.length_append]; exact HO6.out, u5.setCell (by simp; omega) _, by simp [World.setCell]; omega, ?_, ?_⟩
            · exact fun i u h => grown_cell HG6.out (HC5.out i u h) (fun j hj => by cases hj; simp; omega)
            · exact fun i h => (World.frozen?_of_block (w := w5) (HG6.out.block (w.heap.size + 1) (by omega) (by simp; omega))).trans (HF5.out i h)
          case measure => simp [intOf]; omega
        · have HM := hid hmk
          have hmd : ¬ (E ∣ Lk + 1) := fun h => hmk (Int.tmod_eq_zero_of_dvd h)
          clear hmk
          go_wp2
          go_roundw
          case rel => exact ⟨k + 1, Lk + 1, M, v, by omega, by go_num, Heard.line HH.out hkl HBK.out HM.out, by simpa using HS2.out, HO2.out, b2', by simpa [World.setCell] using hlw, HKC2.out, HKF2.out⟩
          case measure => simp [intOf]; omega
      · have HBK : Hid (¬ (xs.drop z).getD k 0 = 10) := hbk
        have hbk' : ((xs.drop z).getD k 0 != 10) = true := by simpa using hbk
        generalize hbe : (xs.drop z).getD k 0 = b at *
        have HBE : Hid ((xs.drop z).getD k 0 = b) := hbe
        clear hbe hbk
        go_wp2
        go_roundw
        case rel => exact ⟨k + 1, Lk, M, v, by omega, by go_num, Heard.no HH.out hkl (by rw [HBE.out]; exact HBK.out), HBL.out, HO.out, hbw, hlw, HKC.out, HKF.out⟩
        case measure => simp [intOf]; omega
    · obtain rfl : k = m - z := by omega
      obtain ⟨e1, e2⟩ := hh.done (by rw [List.length_drop]; omega)
      subst e2
      rw [e1] at hblk x2
      obtain ⟨av, cv, rfl, -⟩ := ho.rdc
      have r0 := hkc 0 _ g0
      have r1 := hkc 1 _ g1
      have r2 := hkc 2 _ g2
      have r3 := hkc 3 _ g3
      have rf0 := hkf 0 gf0
      have rf1 := hkf 1 gf1
      have rf2 := hkf 2 gf2
      have rf3 := hkf 3 gf3
      have hqne : q ≠ w.heap.size + 1 := by omega
      have hqne' : w.heap.size + 1 ≠ q := by omega
      have hzm : z + (m - z) = m := by omega
      have hnr := hblk.not_row (by decide) ho
      have o3 := Own.kept ho (setCell_grown wr q 3 (.int .i64 m)) (fun j hj e => hnr (by rw [hj, e]))
      have HO3 := hid o3
      have b3 : Below w.heap.size w (wr.setCell ⟨q, 3, none⟩ (.int .i64 m)) := hbw.setCell (by simp; omega) _
      clear hh HH hblk ho hkc hkf o3 hnr
      go_wp2
      refine bodyPost_ret (v := .agg #[.int .i64 E, .slice av (ms ++ hearM E L z (xs.drop z)).length cv, .int .i64 (hearN L (xs.drop z)), .int .i64 m]) (by simp [results, Try.results59, go_sem, r0, r1, r2, r3, rf0, rf1, rf2, rf3, x0, x1, x2, x3, hqne, hqne']) rfl ⟨_, rfl, ?_, ?_⟩
      · exact Own.up (Own.setBelow (Own.setBelow (Own.setBelow (Own.setBelow HO3.out (by simp) _) (by simp) _) (by simp) _) (by simp) _) (by omega)
      · exact (((b3.setCell (by simp) _).setCell (by simp) _).setCell (by simp) _).setCell (by simp) _

theorem ex_good {E L Z : Int} {ms xs : List Int} {m : Nat} (hx : xs.length = m) (h : heardF E ms L Z m = 0) : exCode E ms L Z xs = 0 ∧ exE E ms L Z xs = E ∧ exM E ms L Z xs = ms ++ hearM E L Z (xs.drop Z.toNat) ∧ exL E ms L Z xs = hearN L (xs.drop Z.toNat) ∧ exZ E ms L Z xs = m := by
  subst hx
  simp [exCode, exE, exM, exL, exZ, h]

theorem ex_bad {E L Z : Int} {ms xs : List Int} {m : Nat} (hx : xs.length = m) (h : ¬ heardF E ms L Z m = 0) : exCode E ms L Z xs = heardF E ms L Z m ∧ exE E ms L Z xs = 0 ∧ exM E ms L Z xs = [] ∧ exL E ms L Z xs = 0 ∧ exZ E ms L Z xs = 0 := by
  subst hx
  simp [exCode, exE, exM, exL, exZ, h]

theorem cells_alloc3 (w : World) (o1 o2 o3 : Obj) : Below w.heap.size w (((w.alloc o1).alloc o2).alloc o3) := (((Below.refl _ _).alloc (Nat.le_refl _) o1).alloc (by simp) o2).alloc (by simp; omega) o3

set_option maxHeartbeats 1600000 in
theorem specExtendIndex_any (E : Int) (a : Option Addr) (n ca : Nat) (ms : List Int) (L Z : Int) (p : Option Addr) (m cp : Nat) (xs : List Int) (w : World) (ha : Rd .i64 w a n ms) (hp : Rd .u8 w p m xs) (h1 : n ≤ 1048576) (hm : m ≤ 1048576) (hca : n ≤ ca) (hcx : ca ≤ maxLen) (hmc : m ≤ cp) (hcm : cp ≤ maxLen) :
    Calls Try.prog 30 #[.agg #[.int .i64 E, .slice a n ca, .int .i64 L, .int .i64 Z], .agg #[.slice p m cp]] w fun e w' => ∃ v, e = .returned (.agg #[.int .i64 (exCode E ms L Z xs), .int .i64 0, .int .i64 (exE E ms L Z xs), v, .int .i64 (exL E ms L Z xs), .int .i64 (exZ E ms L Z xs)]) ∧ RowI .i64 2 w' w.heap.size w'.heap.size v (exM E ms L Z xs).length (exM E ms L Z xs) ∧ Below w.heap.size w w' := by
  have HCX := hid hcx
  have HCM := hid hcm
  clear hcx hcm
  have hxl := hp.1
  have B3 := cells_alloc3 w
  by_cases hok : heardF E ms L Z m = 0
  rotate_left
  · obtain ⟨e1, e2, e3, e4, e5⟩ := ex_bad hxl hok
    rw [e1, e2, e3, e4, e5]
    clear e1 e2 e3 e4 e5
    generalize hcd : heardF E ms L Z m = cd at *
    have HCD : Hid (heardF E ms L Z m = cd) := hcd
    clear hcd
    go_enter Try.func30, Try.ntmps30
    go_wp2_with fail
    refine (l4Asked_any w.heap.size (w.heap.size + 1) E a n ca ms L Z p m cp _ (by simp [go_sem]) (by simp [go_sem]) (by simp [go_sem]) (by simp [go_sem]) (by simp [go_sem]) (ha.below (B3 _ _ _)) (by omega) (by omega)).mono ?_
    rintro e w1 ⟨rfl, hb1⟩
    rw [HCD.out]
    have hb01 := (B3 _ _ _).trans (hb1.mono (by simp; omega))
    have d0 : w1.cell? ⟨w.heap.size + 1 + 1, 0, none⟩ = some (.int .i64 0) := cell_later hb1 (by simp [go_sem])
    have df0 : w1.frozen? ⟨w.heap.size + 1 + 1, 0, none⟩ = false := (hb1.frozen (p := ⟨w.heap.size + 1 + 1, 0, none⟩) (by first | (simp; done) | (simp; omega))).trans (by simp [go_sem])
    have d1 : w1.cell? ⟨w.heap.size + 1 + 1, 1, none⟩ = some (.int .i64 0) := cell_later hb1 (by simp [go_sem])
    have df1 : w1.frozen? ⟨w.heap.size + 1 + 1, 1, none⟩ = false := (hb1.frozen (p := ⟨w.heap.size + 1 + 1, 1, none⟩) (by first | (simp; done) | (simp; omega))).trans (by simp [go_sem])
    have d2 : w1.cell? ⟨w.heap.size + 1 + 1, 2, none⟩ = some (.int .i64 0) := cell_later hb1 (by simp [go_sem])
    have df2 : w1.frozen? ⟨w.heap.size + 1 + 1, 2, none⟩ = false := (hb1.frozen (p := ⟨w.heap.size + 1 + 1, 2, none⟩) (by first | (simp; done) | (simp; omega))).trans (by simp [go_sem])
    have d3 : w1.cell? ⟨w.heap.size + 1 + 1, 3, none⟩ = some (.slice none 0 0) := cell_later hb1 (by simp [go_sem])
    have df3 : w1.frozen? ⟨w.heap.size + 1 + 1, 3, none⟩ = false := (hb1.frozen (p := ⟨w.heap.size + 1 + 1, 3, none⟩) (by first | (simp; done) | (simp; omega))).trans (by simp [go_sem])
    have d4 : w1.cell? ⟨w.heap.size + 1 + 1, 4, none⟩ = some (.int .i64 0) := cell_later hb1 (by simp [go_sem])
    have df4 : w1.frozen? ⟨w.heap.size + 1 + 1, 4, none⟩ = false := (hb1.frozen (p := ⟨w.heap.size + 1 + 1, 4, none⟩) (by first | (simp; done) | (simp; omega))).trans (by simp [go_sem])
    have d5 : w1.cell? ⟨w.heap.size + 1 + 1, 5, none⟩ = some (.int .i64 0) := cell_later hb1 (by simp [go_sem])
    have df5 : w1.frozen? ⟨w.heap.size + 1 + 1, 5, none⟩ = false := (hb1.frozen (p := ⟨w.heap.size + 1 + 1, 5, none⟩) (by first | (simp; done) | (simp; omega))).trans (by simp [go_sem])
    go_wp2_with fail
    refine (l4Bad_any cd _).mono ?_
    rintro e w2 ⟨rfl, hb2⟩
    have s1 : w.heap.size + 1 + 1 < w1.heap.size := by have := hb1.size; simp at this; omega
    have hb02 := hb01.trans (hb2.mono hb01.size)
    have y0 := cell_later hb2 d0
    have yf0 := (hb2.frozen (p := ⟨w.heap.size + 1 + 1, 0, none⟩) s1).trans df0
    have y1 := cell_later hb2 d1
    have yf1 := (hb2.frozen (p := ⟨w.heap.size + 1 + 1, 1, none⟩) s1).trans df1
    have y2 := cell_later hb2 d2
    have yf2 := (hb2.frozen (p := ⟨w.heap.size + 1 + 1, 2, none⟩) s1).trans df2
    have y3 := cell_later hb2 d3
    have yf3 := (hb2.frozen (p := ⟨w.heap.size + 1 + 1, 3, none⟩) s1).trans df3
    have y4 := cell_later hb2 d4
    have yf4 := (hb2.frozen (p := ⟨w.heap.size + 1 + 1, 4, none⟩) s1).trans df4
    have y5 := cell_later hb2 d5
    have yf5 := (hb2.frozen (p := ⟨w.heap.size + 1 + 1, 5, none⟩) s1).trans df5
    go_wp2
    refine bodyPost_ret (v := .agg #[.int .i64 cd, .int .i64 0, .int .i64 0, .slice none 0 0, .int .i64 0, .int .i64 0]) (by simp [results, Try.results30, go_sem, y0, y1, y2, y3, y4, y5]) rfl ⟨_, rfl, RowI.nil _ _ _ _ _, ?_⟩
    exact ((((((hb02.setCell (by simp; omega) _).setCell (by simp; omega) _).setCell (by simp; omega) _).setCell (by simp; omega) _).setCell (by simp; omega) _).setCell (by simp; omega) _)
  · obtain ⟨e1, e2, e3, e4, e5⟩ := ex_good hxl hok
    rw [e1, e2, e3, e4, e5]
    clear e1 e2 e3 e4 e5
    have hok' := hok
    obtain ⟨hif, hm4, hZm⟩ := heardF_zero hok
    obtain ⟨hE1, hE2, hZ1, hZ2, hL1, hL2, -, -, hms⟩ := index_ok hif
    have hlen := ha.1
    obtain ⟨z, rfl⟩ := Int.eq_ofNat_of_zero_le hZ1
    rw [Int.toNat_natCast]
    go_enter Try.func30, Try.ntmps30
    go_wp2_with fail
    refine (l4Asked_any w.heap.size (w.heap.size + 1) E a n ca ms L (z : Int) p m cp _ (by simp [go_sem]) (by simp [go_sem]) (by simp [go_sem]) (by simp [go_sem]) (by simp [go_sem]) (ha.below (B3 _ _ _)) (by omega) (by omega)).mono ?_
    rintro e w1 ⟨rfl, hb1⟩
    rw [hok]
    have hb01 := (B3 _ _ _).trans (hb1.mono (by simp; omega))
    have x0 : w1.cell? ⟨w.heap.size, 0, none⟩ = some (.int .i64 E) := cell_later hb1 (by simp [go_sem])
    have xf0 : w1.frozen? ⟨w.heap.size, 0, none⟩ = false := (hb1.frozen (p := ⟨w.heap.size, 0, none⟩) (by first | (simp; done) | (simp; omega))).trans (by simp [go_sem])
    have x1 : w1.cell? ⟨w.heap.size, 1, none⟩ = some (.slice a n ca) := cell_later hb1 (by simp [go_sem])
    have xf1 : w1.frozen? ⟨w.heap.size, 1, none⟩ = false := (hb1.frozen (p := ⟨w.heap.size, 1, none⟩) (by first | (simp; done) | (simp; omega))).trans (by simp [go_sem])
    have x2 : w1.cell? ⟨w.heap.size, 2, none⟩ = some (.int .i64 L) := cell_later hb1 (by simp [go_sem])
    have xf2 : w1.frozen? ⟨w.heap.size, 2, none⟩ = false := (hb1.frozen (p := ⟨w.heap.size, 2, none⟩) (by first | (simp; done) | (simp; omega))).trans (by simp [go_sem])
    have x3 : w1.cell? ⟨w.heap.size, 3, none⟩ = some (.int .i64 (z : Int)) := cell_later hb1 (by simp [go_sem])
    have xf3 : w1.frozen? ⟨w.heap.size, 3, none⟩ = false := (hb1.frozen (p := ⟨w.heap.size, 3, none⟩) (by first | (simp; done) | (simp; omega))).trans (by simp [go_sem])
    have f0 : w1.cell? ⟨w.heap.size + 1, 0, none⟩ = some (.slice p m cp) := cell_later hb1 (by simp [go_sem])
    have ff0 : w1.frozen? ⟨w.heap.size + 1, 0, none⟩ = false := (hb1.frozen (p := ⟨w.heap.size + 1, 0, none⟩) (by first | (simp; done) | (simp; omega))).trans (by simp [go_sem])
    have d0 : w1.cell? ⟨w.heap.size + 1 + 1, 0, none⟩ = some (.int .i64 0) := cell_later hb1 (by simp [go_sem])
    have df0 : w1.frozen? ⟨w.heap.size + 1 + 1, 0, none⟩ = false := (hb1.frozen (p := ⟨w.heap.size + 1 + 1, 0, none⟩) (by first | (simp; done) | (simp; omega))).trans (by simp [go_sem])
    have d1 : w1.cell? ⟨w.heap.size + 1 + 1, 1, none⟩ = some (.int .i64 0) := cell_later hb1 (by simp [go_sem])
    have df1 : w1.frozen? ⟨w.heap.size + 1 + 1, 1, none⟩ = false := (hb1.frozen (p := ⟨w.heap.size + 1 + 1, 1, none⟩) (by first | (simp; done) | (simp; omega))).trans (by simp [go_sem])
    have d2 : w1.cell? ⟨w.heap.size + 1 + 1, 2, none⟩ = some (.int .i64 0) := cell_later hb1 (by simp [go_sem])
    have df2 : w1.frozen? ⟨w.heap.size + 1 + 1, 2, none⟩ = false := (hb1.frozen (p := ⟨w.heap.size + 1 + 1, 2, none⟩) (by first | (simp; done) | (simp; omega))).trans (by simp [go_sem])
    have d3 : w1.cell? ⟨w.heap.size + 1 + 1, 3, none⟩ = some (.slice none 0 0) := cell_later hb1 (by simp [go_sem])
    have df3 : w1.frozen? ⟨w.heap.size + 1 + 1, 3, none⟩ = false := (hb1.frozen (p := ⟨w.heap.size + 1 + 1, 3, none⟩) (by first | (simp; done) | (simp; omega))).trans (by simp [go_sem])
    have d4 : w1.cell? ⟨w.heap.size + 1 + 1, 4, none⟩ = some (.int .i64 0) := cell_later hb1 (by simp [go_sem])
    have df4 : w1.frozen? ⟨w.heap.size + 1 + 1, 4, none⟩ = false := (hb1.frozen (p := ⟨w.heap.size + 1 + 1, 4, none⟩) (by first | (simp; done) | (simp; omega))).trans (by simp [go_sem])
    have d5 : w1.cell? ⟨w.heap.size + 1 + 1, 5, none⟩ = some (.int .i64 0) := cell_later hb1 (by simp [go_sem])
    have df5 : w1.frozen? ⟨w.heap.size + 1 + 1, 5, none⟩ = false := (hb1.frozen (p := ⟨w.heap.size + 1 + 1, 5, none⟩) (by first | (simp; done) | (simp; omega))).trans (by simp [go_sem])
    go_wp2_with fail
    refine (l4Extend_any E a n ca ms L z (w.heap.size + 1) p m cp xs _ (ha.below hb01) f0 (hp.below hb01) hE1 hE2 hL1 (by omega) (by omega) (by omega) (by omega)).mono ?_
    rintro e w2 ⟨v2, rfl, ho2, hb2⟩
    have s1 : w.heap.size + 1 + 1 < w1.heap.size := by have := hb1.size; simp at this; omega
    have hb02 := hb01.trans (hb2.mono hb01.size)
    have y0 := cell_later hb2 d0
    have yf0 := (hb2.frozen (p := ⟨w.heap.size + 1 + 1, 0, none⟩) s1).trans df0
    have y1 := cell_later hb2 d1
    have yf1 := (hb2.frozen (p := ⟨w.heap.size + 1 + 1, 1, none⟩) s1).trans df1
    have y2 := cell_later hb2 d2
    have yf2 := (hb2.frozen (p := ⟨w.heap.size + 1 + 1, 2, none⟩) s1).trans df2
    have y3 := cell_later hb2 d3
    have yf3 := (hb2.frozen (p := ⟨w.heap.size + 1 + 1, 3, none⟩) s1).trans df3
    have y4 := cell_later hb2 d4
    have yf4 := (hb2.frozen (p := ⟨w.heap.size + 1 + 1, 4, none⟩) s1).trans df4
    have y5 := cell_later hb2 d5
    have yf5 := (hb2.frozen (p := ⟨w.heap.size + 1 + 1, 5, none⟩) s1).trans df5
    obtain ⟨a2, c2, rfl, -⟩ := ho2.rdc
    have HO2 := hid ho2
    clear ho2 hlen
    go_wp2
    refine bodyPost_ret (v := .agg #[.int .i64 0, .int .i64 0, .int .i64 E, .slice a2 (ms ++ hearM E L z (xs.drop z)).length c2, .int .i64 (hearN L (xs.drop z)), .int .i64 m]) (by simp [results, Try.results30, go_sem, y0, y1, y2, y3, y4, y5]) rfl ⟨_, rfl, ?_, ?_⟩
    · exact RowI.mono (RowI.of ((Own.setBelow (Own.setBelow (Own.setBelow (Own.setBelow (Own.setBelow (Own.setBelow HO2.out (by simp; omega) _) (by simp; omega) _) (by simp; omega) _) (by simp; omega) _) (by simp; omega) _) (by simp; omega) _))) (by omega) (Nat.le_refl _)
    · exact ((((((hb02.setCell (by simp; omega) _).setCell (by simp; omega) _).setCell (by simp; omega) _).setCell (by simp; omega) _).setCell (by simp; omega) _).setCell (by simp; omega) _)

set_option maxHeartbeats 1600000 in
theorem implExtendIndex_any (E : Int) (a : Option Addr) (n ca : Nat) (ms : List Int) (L Z : Int) (p : Option Addr) (m cp : Nat) (xs : List Int) (w : World) (ha : Rd .i64 w a n ms) (hp : Rd .u8 w p m xs) (h1 : n ≤ 1048576) (hm : m ≤ 1048576) (hca : n ≤ ca) (hcx : ca ≤ maxLen) (hmc : m ≤ cp) (hcm : cp ≤ maxLen) :
    Calls Try.prog 32 #[.agg #[.int .i64 E, .slice a n ca, .int .i64 L, .int .i64 Z], .agg #[.slice p m cp]] w fun e w' => ∃ v, e = .returned (.agg #[.int .i64 (exCode E ms L Z xs), .int .i64 0, .int .i64 (exE E ms L Z xs), v, .int .i64 (exL E ms L Z xs), .int .i64 (exZ E ms L Z xs)]) ∧ RowI .i64 2 w' w.heap.size w'.heap.size v (exM E ms L Z xs).length (exM E ms L Z xs) ∧ Below w.heap.size w w' := by
  have HCX := hid hcx
  have HCM := hid hcm
  clear hcx hcm
  have hxl := hp.1
  have B3 := cells_alloc3 w
  by_cases hok : heardF E ms L Z m = 0
  rotate_left
  · obtain ⟨e1, e2, e3, e4, e5⟩ := ex_bad hxl hok
    rw [e1, e2, e3, e4, e5]
    clear e1 e2 e3 e4 e5
    generalize hcd : heardF E ms L Z m = cd at *
    have HCD : Hid (heardF E ms L Z m = cd) := hcd
    clear hcd
    go_enter Try.func32, Try.ntmps32
    go_wp2_with fail
    refine (heardFault_any E a n ca ms L Z p m cp _ (ha.below (B3 _ _ _)) (by omega) (by omega)).mono ?_
    rintro e w1 ⟨rfl, hb1⟩
    rw [HCD.out]
    have hb01 := (B3 _ _ _).trans (hb1.mono (by simp; omega))
    have d0 : w1.cell? ⟨w.heap.size + 1 + 1, 0, none⟩ = some (.int .i64 0) := cell_later hb1 (by simp [go_sem])
    have df0 : w1.frozen? ⟨w.heap.size + 1 + 1, 0, none⟩ = false := (hb1.frozen (p := ⟨w.heap.size + 1 + 1, 0, none⟩) (by first | (simp; done) | (simp; omega))).trans (by simp [go_sem])
    have d1 : w1.cell? ⟨w.heap.size + 1 + 1, 1, none⟩ = some (.int .i64 0) := cell_later hb1 (by simp [go_sem])
    have df1 : w1.frozen? ⟨w.heap.size + 1 + 1, 1, none⟩ = false := (hb1.frozen (p := ⟨w.heap.size + 1 + 1, 1, none⟩) (by first | (simp; done) | (simp; omega))).trans (by simp [go_sem])
    have d2 : w1.cell? ⟨w.heap.size + 1 + 1, 2, none⟩ = some (.int .i64 0) := cell_later hb1 (by simp [go_sem])
    have df2 : w1.frozen? ⟨w.heap.size + 1 + 1, 2, none⟩ = false := (hb1.frozen (p := ⟨w.heap.size + 1 + 1, 2, none⟩) (by first | (simp; done) | (simp; omega))).trans (by simp [go_sem])
    have d3 : w1.cell? ⟨w.heap.size + 1 + 1, 3, none⟩ = some (.slice none 0 0) := cell_later hb1 (by simp [go_sem])
    have df3 : w1.frozen? ⟨w.heap.size + 1 + 1, 3, none⟩ = false := (hb1.frozen (p := ⟨w.heap.size + 1 + 1, 3, none⟩) (by first | (simp; done) | (simp; omega))).trans (by simp [go_sem])
    have d4 : w1.cell? ⟨w.heap.size + 1 + 1, 4, none⟩ = some (.int .i64 0) := cell_later hb1 (by simp [go_sem])
    have df4 : w1.frozen? ⟨w.heap.size + 1 + 1, 4, none⟩ = false := (hb1.frozen (p := ⟨w.heap.size + 1 + 1, 4, none⟩) (by first | (simp; done) | (simp; omega))).trans (by simp [go_sem])
    have d5 : w1.cell? ⟨w.heap.size + 1 + 1, 5, none⟩ = some (.int .i64 0) := cell_later hb1 (by simp [go_sem])
    have df5 : w1.frozen? ⟨w.heap.size + 1 + 1, 5, none⟩ = false := (hb1.frozen (p := ⟨w.heap.size + 1 + 1, 5, none⟩) (by first | (simp; done) | (simp; omega))).trans (by simp [go_sem])
    go_wp2
    refine bodyPost_ret (v := .agg #[.int .i64 cd, .int .i64 0, .int .i64 0, .slice none 0 0, .int .i64 0, .int .i64 0]) (by simp [results, Try.results32, go_sem, d0, d1, d2, d3, d4, d5]) rfl ⟨_, rfl, RowI.nil _ _ _ _ _, ?_⟩
    exact ((((((hb01.setCell (by simp; omega) _).setCell (by simp; omega) _).setCell (by simp; omega) _).setCell (by simp; omega) _).setCell (by simp; omega) _).setCell (by simp; omega) _)
  · obtain ⟨e1, e2, e3, e4, e5⟩ := ex_good hxl hok
    rw [e1, e2, e3, e4, e5]
    clear e1 e2 e3 e4 e5
    have hok' := hok
    obtain ⟨hif, hm4, hZm⟩ := heardF_zero hok
    obtain ⟨hE1, hE2, hZ1, hZ2, hL1, hL2, -, -, hms⟩ := index_ok hif
    have hlen := ha.1
    obtain ⟨z, rfl⟩ := Int.eq_ofNat_of_zero_le hZ1
    rw [Int.toNat_natCast]
    go_enter Try.func32, Try.ntmps32
    go_wp2_with fail
    refine (heardFault_any E a n ca ms L (z : Int) p m cp _ (ha.below (B3 _ _ _)) (by omega) (by omega)).mono ?_
    rintro e w1 ⟨rfl, hb1⟩
    rw [hok]
    have hb01 := (B3 _ _ _).trans (hb1.mono (by simp; omega))
    have x0 : w1.cell? ⟨w.heap.size, 0, none⟩ = some (.int .i64 E) := cell_later hb1 (by simp [go_sem])
    have xf0 : w1.frozen? ⟨w.heap.size, 0, none⟩ = false := (hb1.frozen (p := ⟨w.heap.size, 0, none⟩) (by first | (simp; done) | (simp; omega))).trans (by simp [go_sem])
    have x1 : w1.cell? ⟨w.heap.size, 1, none⟩ = some (.slice a n ca) := cell_later hb1 (by simp [go_sem])
    have xf1 : w1.frozen? ⟨w.heap.size, 1, none⟩ = false := (hb1.frozen (p := ⟨w.heap.size, 1, none⟩) (by first | (simp; done) | (simp; omega))).trans (by simp [go_sem])
    have x2 : w1.cell? ⟨w.heap.size, 2, none⟩ = some (.int .i64 L) := cell_later hb1 (by simp [go_sem])
    have xf2 : w1.frozen? ⟨w.heap.size, 2, none⟩ = false := (hb1.frozen (p := ⟨w.heap.size, 2, none⟩) (by first | (simp; done) | (simp; omega))).trans (by simp [go_sem])
    have x3 : w1.cell? ⟨w.heap.size, 3, none⟩ = some (.int .i64 (z : Int)) := cell_later hb1 (by simp [go_sem])
    have xf3 : w1.frozen? ⟨w.heap.size, 3, none⟩ = false := (hb1.frozen (p := ⟨w.heap.size, 3, none⟩) (by first | (simp; done) | (simp; omega))).trans (by simp [go_sem])
    have f0 : w1.cell? ⟨w.heap.size + 1, 0, none⟩ = some (.slice p m cp) := cell_later hb1 (by simp [go_sem])
    have ff0 : w1.frozen? ⟨w.heap.size + 1, 0, none⟩ = false := (hb1.frozen (p := ⟨w.heap.size + 1, 0, none⟩) (by first | (simp; done) | (simp; omega))).trans (by simp [go_sem])
    have d0 : w1.cell? ⟨w.heap.size + 1 + 1, 0, none⟩ = some (.int .i64 0) := cell_later hb1 (by simp [go_sem])
    have df0 : w1.frozen? ⟨w.heap.size + 1 + 1, 0, none⟩ = false := (hb1.frozen (p := ⟨w.heap.size + 1 + 1, 0, none⟩) (by first | (simp; done) | (simp; omega))).trans (by simp [go_sem])
    have d1 : w1.cell? ⟨w.heap.size + 1 + 1, 1, none⟩ = some (.int .i64 0) := cell_later hb1 (by simp [go_sem])
    have df1 : w1.frozen? ⟨w.heap.size + 1 + 1, 1, none⟩ = false := (hb1.frozen (p := ⟨w.heap.size + 1 + 1, 1, none⟩) (by first | (simp; done) | (simp; omega))).trans (by simp [go_sem])
    have d2 : w1.cell? ⟨w.heap.size + 1 + 1, 2, none⟩ = some (.int .i64 0) := cell_later hb1 (by simp [go_sem])
    have df2 : w1.frozen? ⟨w.heap.size + 1 + 1, 2, none⟩ = false := (hb1.frozen (p := ⟨w.heap.size + 1 + 1, 2, none⟩) (by first | (simp; done) | (simp; omega))).trans (by simp [go_sem])
    have d3 : w1.cell? ⟨w.heap.size + 1 + 1, 3, none⟩ = some (.slice none 0 0) := cell_later hb1 (by simp [go_sem])
    have df3 : w1.frozen? ⟨w.heap.size + 1 + 1, 3, none⟩ = false := (hb1.frozen (p := ⟨w.heap.size + 1 + 1, 3, none⟩) (by first | (simp; done) | (simp; omega))).trans (by simp [go_sem])
    have d4 : w1.cell? ⟨w.heap.size + 1 + 1, 4, none⟩ = some (.int .i64 0) := cell_later hb1 (by simp [go_sem])
    have df4 : w1.frozen? ⟨w.heap.size + 1 + 1, 4, none⟩ = false := (hb1.frozen (p := ⟨w.heap.size + 1 + 1, 4, none⟩) (by first | (simp; done) | (simp; omega))).trans (by simp [go_sem])
    have d5 : w1.cell? ⟨w.heap.size + 1 + 1, 5, none⟩ = some (.int .i64 0) := cell_later hb1 (by simp [go_sem])
    have df5 : w1.frozen? ⟨w.heap.size + 1 + 1, 5, none⟩ = false := (hb1.frozen (p := ⟨w.heap.size + 1 + 1, 5, none⟩) (by first | (simp; done) | (simp; omega))).trans (by simp [go_sem])
    go_wp2_with fail
    refine (extended_any E a n ca ms L z p m cp xs _ (ha.below hb01) (hp.below hb01) h1 hmc HCM.out hok').mono ?_
    rintro e w2 ⟨q, v2, rfl, hbl, ho2, hb2, hq⟩
    rw [Int.toNat_natCast] at hbl ho2
    have s1 : w.heap.size + 1 + 1 < w1.heap.size := by have := hb1.size; simp at this; omega
    have hb02 := hb01.trans (hb2.mono hb01.size)
    have y0 := cell_later hb2 d0
    have yf0 := (hb2.frozen (p := ⟨w.heap.size + 1 + 1, 0, none⟩) s1).trans df0
    have y1 := cell_later hb2 d1
    have yf1 := (hb2.frozen (p := ⟨w.heap.size + 1 + 1, 1, none⟩) s1).trans df1
    have y2 := cell_later hb2 d2
    have yf2 := (hb2.frozen (p := ⟨w.heap.size + 1 + 1, 2, none⟩) s1).trans df2
    have y3 := cell_later hb2 d3
    have yf3 := (hb2.frozen (p := ⟨w.heap.size + 1 + 1, 3, none⟩) s1).trans df3
    have y4 := cell_later hb2 d4
    have yf4 := (hb2.frozen (p := ⟨w.heap.size + 1 + 1, 4, none⟩) s1).trans df4
    have y5 := cell_later hb2 d5
    have yf5 := (hb2.frozen (p := ⟨w.heap.size + 1 + 1, 5, none⟩) s1).trans df5
    have q0 := hbl.cell 0
    have q1 := hbl.cell 1
    have q2 := hbl.cell 2
    have q3 := hbl.cell 3
    simp at q0 q1 q2 q3
    have hqne : q ≠ w.heap.size + 1 + 1 := by omega
    clear hbl
    obtain ⟨a2, c2, rfl, -⟩ := ho2.rdc
    have HO2 := hid ho2
    clear ho2 hlen
    go_wp2
    refine bodyPost_ret (v := .agg #[.int .i64 0, .int .i64 0, .int .i64 E, .slice a2 (ms ++ hearM E L z (xs.drop z)).length c2, .int .i64 (hearN L (xs.drop z)), .int .i64 m]) (by simp [results, Try.results32, go_sem, y0, y1, y2, y3, y4, y5]) rfl ⟨_, rfl, ?_, ?_⟩
    · exact RowI.mono (RowI.of ((Own.setBelow (Own.setBelow (Own.setBelow (Own.setBelow (Own.setBelow (Own.setBelow HO2.out (by simp; omega) _) (by simp; omega) _) (by simp; omega) _) (by simp; omega) _) (by simp; omega) _) (by simp; omega) _))) (by omega) (Nat.le_refl _)
    · exact ((((((hb02.setCell (by simp; omega) _).setCell (by simp; omega) _).setCell (by simp; omega) _).setCell (by simp; omega) _).setCell (by simp; omega) _).setCell (by simp; omega) _)

end Go.Proofs.Ythdglflipeggpaa
