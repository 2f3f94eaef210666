/-
  Chapter 10's specification: spots, how one moves, the last top.
-/
import Derived.Test.YtjgmkcmlkffjlaaDoorRow6
import Derived.Deep.RegionWith
import Derived.Deep.RegionHeld3
namespace Go.Proofs.YtjgmkcmlkffjlaaDoor
open Go.RowKit
set_option linter.unusedVariables false
set_option linter.unusedSimpArgs false

/-- what SpotFault tells -/
def spotF (xs : List Int) (W : Int) (C : Bool) (S L R : Int) : Int := if spBase xs.length W C S ≠ 0 then spBase xs.length W C S else spIn (cnt C W xs) L R
theorem spBase_ok {n : Nat} {W : Int} {C : Bool} {S : Int} (h : spBase n W C S = 0) : n ≤ 400 ∧ lyF W C S = 0 := by
  unfold spBase at h; split at h <;> omega

set_option maxRecDepth 10000 in
set_option maxHeartbeats 3200000 in
theorem l10Spot_any (b b2 : Nat) (a : Option Addr) (n ca : Nat) (xs : List Int) (W S L R : Int) (C : Bool) (w : World) (hc : w.cell? ⟨b, 0, none⟩ = some (.slice a n ca))
    (c0 : w.cell? ⟨b2, 0, none⟩ = some (.int .i64 W)) (c1 : w.cell? ⟨b2, 1, none⟩ = some (.bool C)) (c2 : w.cell? ⟨b2, 2, none⟩ = some (.int .i64 S))
    (ha : Rd .u8 w a n xs) (hB : Bytes xs) (h1 : n ≤ 1073741824) (hca : n ≤ ca) (hcm : ca ≤ maxLen) :
    Calls Tryd.prog 19 #[.pointer (some ⟨b, 0, none⟩), .pointer (some ⟨b2, 0, none⟩), .agg #[.int .i64 L, .int .i64 R]] w fun e w' => e = .returned (.int .i64 (spotF xs W C S L R)) ∧ Below w.heap.size w w' := by
  have hlen := ha.1
  have HBS := fun w' hb => (l10Base_any b b2 a n ca W S C w' (cell_later (hb : Below w.heap.size w w') hc) h1 (cell_later hb c0) (cell_later hb c1) (cell_later hb c2)).mono (fun e w'' h => (⟨h.1, h.2 ▸ Below.refl _ _⟩ : e = .returned (.int .i64 (spBase n W C S)) ∧ Below w'.heap.size w' w''))
  by_cases hF : spBase n W C S = 0
  · obtain ⟨hn, hL⟩ := spBase_ok hF
    obtain ⟨hW, hW2, hS, hS2, -⟩ := lyF_ok hL
    have e1 : spotF xs W C S L R = spIn (cnt C W xs) L R := by unfold spotF; rw [hlen, if_neg (by omega)]
    rw [e1]
    rw [hF] at HBS
    have CN := fun w' hb => l10Counts_any b b2 a n ca xs W S C w' (cell_later (hb : Below w.heap.size w w') hc) (cell_later hb c0) (cell_later hb c1) (cell_later hb c2) (ha.below hb) hB hn hca hcm hW hW2
    have hcl := cnt_len C W xs
    have hll := lns_len xs
    have SI := fun A CA w' h => l10SpotIn_any A (cnt C W xs).length CA (cnt C W xs) L R w' h (by omega) (fun c hc => by have := cnt_le hB (by omega) hW c hc; omega)
    have hcm1 : (cnt C W xs).length ≤ 400 := by omega
    generalize cnt C W xs = cs at *
    generalize hm : cs.length = m at *
    have HB0 : Hid _ := HBS
    have HCN : Hid _ := CN
    have HSI : Hid _ := SI
    clear HBS CN SI e1 hF hm hcm hL hc c0 c1 c2 hcl hll
    go_enter Tryd.func19, Tryd.ntmps19
    have hb : Below w.heap.size w w := Below.refl _ _
    go_wp2_with fail
    have bp : ∀ o0, Below w.heap.size w (w.alloc o0) := fun o0 => (Below.refl _ _).alloc (Nat.le_refl _) o0
    have hbt : ∀ o0, Below w.heap.size w (w.alloc o0) := fun o0 => hb.trans ((bp o0).mono hb.size)
    refine Calls.mono (HB0.out _ (hbt _)) ?_
    rintro e w1 ⟨rfl, hc⟩
    have s1 : w.heap.size + 1 ≤ w1.heap.size := by have := hc.size; simp at this; omega
    have bq : Below w.heap.size w w1 := (bp _).trans (hc.mono (bp _).size)
    have cs0 : w1.cell? ⟨w.heap.size, 0, none⟩ = some (.int .i64 L) := cell_later hc (by simp [go_sem])
    have cs1 : w1.cell? ⟨w.heap.size, 1, none⟩ = some (.int .i64 R) := cell_later hc (by simp [go_sem])
    have zs : w.heap.size < w1.heap.size := by omega
    replace hb := hb.trans (bq.mono hb.size)
    clear hc bq bp hbt
    go_wp2_with fail
    have bd : Below w1.heap.size w1 w1.drew := (Below.refl _ _).drew
    refine wp_region_held_drew (S := fun w' => Below w.heap.size w w' ∧ w'.cell? ⟨w.heap.size, 0, none⟩ = some (.int .i64 L) ∧ w'.cell? ⟨w.heap.size, 1, none⟩ = some (.int .i64 R)) (by kernel_rfl) ⟨(hb.trans (bd.mono hb.size)), cell_later bd cs0, cell_later bd cs1⟩ (fun hS => ?_)
    obtain ⟨D1, hD⟩ : ∃ D, w1.drew = D := ⟨_, rfl⟩
    rw [hD] at hS bd ⊢
    have hc := bd
    clear hD bd
    have s2 : w1.heap.size ≤ D1.heap.size := hc.size
    have bq := hc
    replace cs0 := cell_later bq cs0
    replace cs1 := cell_later bq cs1
    replace zs := Nat.lt_of_lt_of_le zs bq.size
    replace hb := hb.trans (bq.mono hb.size)
    clear hc bq
    refine wpAnyH_take (i := 0) (v := (.pointer (some ⟨b, 0, none⟩))) rfl (by as_aux_lemma => kernel_rfl) (by as_aux_lemma => kernel_rfl) (by as_aux_lemma => kernel_rfl) (fun _ _ _ h => h) (Or.inl ⟨by kernel_rfl, ?_⟩) hS ?_
    · intro w hSw; (try dsimp only at hSw); go_simp
    (try simp only [Act.put, List.getElem_toArray, List.getElem_cons_zero, List.getElem_cons_succ, List.setIfInBounds_toArray, List.set_cons_zero, List.set_cons_succ])
    refine wpAnyH_take (i := 1) (v := (.pointer (some ⟨b2, 0, none⟩))) rfl (by as_aux_lemma => kernel_rfl) (by as_aux_lemma => kernel_rfl) (by as_aux_lemma => kernel_rfl) (fun _ _ _ h => h) (Or.inl ⟨by kernel_rfl, ?_⟩) hS ?_
    · intro w hSw; (try dsimp only at hSw); go_simp
    (try simp only [Act.put, List.getElem_toArray, List.getElem_cons_zero, List.getElem_cons_succ, List.setIfInBounds_toArray, List.set_cons_zero, List.set_cons_succ])
    refine wpAnyH_take (i := 3) (v := (.agg #[.int .i64 L, .int .i64 R])) rfl (by as_aux_lemma => kernel_rfl) (by as_aux_lemma => kernel_rfl) (by as_aux_lemma => kernel_rfl) (fun _ _ _ h => h) (Or.inl ⟨by kernel_rfl, ?_⟩) hS ?_
    · intro w hSw; (try dsimp only at hSw); obtain ⟨hSb, hl0, hl1⟩ := hSw; go_simp
    (try simp only [Act.put, List.getElem_toArray, List.getElem_cons_zero, List.getElem_cons_succ, List.setIfInBounds_toArray, List.set_cons_zero, List.set_cons_succ])
    refine wpAnyH_ready (rs := [2]) (by as_aux_lemma => kernel_rfl) (by simp) ?_
    refine AllReadyH.cons rfl (fun K hK => ?_) AllReadyH.nil
    go_simp
    refine Calls.mono (HCN.out _ hb) ?_
    rintro e w3 ⟨v2, rfl, r2, hc⟩
    obtain ⟨a2, k2, rfl, -⟩ := r2.shape
    have s3 : D1.heap.size ≤ w3.heap.size := hc.size
    have bq := hc
    replace cs0 := cell_later bq cs0
    replace cs1 := cell_later bq cs1
    replace zs := Nat.lt_of_lt_of_le zs bq.size
    replace hb := hb.trans (bq.mono hb.size)
    clear hc bq
    refine hK.out _ _ (⟨hb, cs0, cs1⟩) (fun hS => ?_)
    clear hK K
    (try simp only [Act.put, List.getElem_toArray, List.getElem_cons_zero, List.getElem_cons_succ, List.setIfInBounds_toArray, List.set_cons_zero, List.set_cons_succ])
    refine wpAnyH_ready (rs := [4]) (by as_aux_lemma => kernel_rfl) (by simp) ?_
    refine AllReadyH.cons rfl (fun K hK => ?_) AllReadyH.nil
    go_simp
    refine Calls.mono (HSI.out a2 k2 w3 r2.read) ?_
    rintro e w4 ⟨rfl, hc⟩
    have s4 : w3.heap.size ≤ w4.heap.size := hc.size
    have bq := hc
    replace cs0 := cell_later bq cs0
    replace cs1 := cell_later bq cs1
    replace zs := Nat.lt_of_lt_of_le zs bq.size
    replace hb := hb.trans (bq.mono hb.size)
    clear hc bq
    refine hK.out _ _ (⟨hb, cs0, cs1⟩) (fun hS => ?_)
    clear hK K
    (try simp only [Act.put, List.getElem_toArray, List.getElem_cons_zero, List.getElem_cons_succ, List.setIfInBounds_toArray, List.set_cons_zero, List.set_cons_succ])
    refine wpAnyH_take (i := 5) (v := (.int .i64 (spIn cs L R))) rfl (by as_aux_lemma => kernel_rfl) (by as_aux_lemma => kernel_rfl) (by as_aux_lemma => kernel_rfl) (fun _ _ _ h => h) (Or.inl ⟨by kernel_rfl, ?_⟩) hS ?_
    · intro w hSw; (try dsimp only at hSw); go_simp
    (try simp only [Act.put, List.getElem_toArray, List.getElem_cons_zero, List.getElem_cons_succ, List.setIfInBounds_toArray, List.set_cons_zero, List.set_cons_succ])
    refine wpAnyH_done (by kernel_rfl) ?_ _
    clear hS
    go_wp2
    go_ret
    exact ⟨rfl, hb⟩
  · have e1 : spotF xs W C S L R = spBase n W C S := by unfold spotF; rw [hlen, if_pos hF]
    rw [e1]
    generalize spBase n W C S = F at *
    have HB0 : Hid _ := HBS
    clear HBS e1 hcm hc c0 c1 c2
    go_enter Tryd.func19, Tryd.ntmps19
    have hb : Below w.heap.size w w := Below.refl _ _
    go_wp2_with fail
    have bp : ∀ o0, Below w.heap.size w (w.alloc o0) := fun o0 => (Below.refl _ _).alloc (Nat.le_refl _) o0
    have hbt : ∀ o0, Below w.heap.size w (w.alloc o0) := fun o0 => hb.trans ((bp o0).mono hb.size)
    refine Calls.mono (HB0.out _ (hbt _)) ?_
    rintro e w1 ⟨rfl, hc⟩
    have s1 : w.heap.size + 1 ≤ w1.heap.size := by have := hc.size; simp at this; omega
    have bq : Below w.heap.size w w1 := (bp _).trans (hc.mono (bp _).size)
    have cs0 : w1.cell? ⟨w.heap.size, 0, none⟩ = some (.int .i64 L) := cell_later hc (by simp [go_sem])
    have cs1 : w1.cell? ⟨w.heap.size, 1, none⟩ = some (.int .i64 R) := cell_later hc (by simp [go_sem])
    have zs : w.heap.size < w1.heap.size := by omega
    replace hb := hb.trans (bq.mono hb.size)
    clear hc bq bp hbt
    go_wp2
    go_ret
    exact ⟨rfl, hb⟩

set_option maxHeartbeats 800000 in
theorem l10At_any (a : Option Addr) (n ca : Nat) (cs : List Nat) (i c : Nat) (w : World) (ha : Rd .i64 w a n (natsI cs)) (hn : n ≤ 1000000) (hi : (cs1 cs)[i]? = some c) :
    Calls Tryd.prog 37 #[.slice a n ca, .int .i64 i] w fun e w' => e = .returned (.int .i64 (c : Nat)) ∧ w' = w := by
  have hlen := ha.1
  rw [natsI_len] at hlen
  by_cases hin : i < n
  · obtain ⟨B, o, rfl, hcell⟩ := ha.at hin
    have hk := hcell i hin
    have hne : cs ≠ [] := by intro h; subst h; simp at hlen; omega
    have hc1 : cs1 cs = cs := by simp [cs1, hne]
    have hgd : (natsI cs).getD i 0 = (c : Nat) := by
      unfold natsI; rw [List.getD_eq_getElem?_getD, List.getElem?_map, ← hc1, hi]; rfl
    rw [hgd] at hk
    have hin' : (i : Int) < (n : Int) := by omega
    clear hcell hgd ha hc1 hi
    go_enter Tryd.func37, Tryd.ntmps37
    go_wp2
    go_ret
    exact ⟨rfl, rfl⟩
  · have hc : c = 1 := by
      have hil := (List.getElem?_eq_some_iff.1 hi).1
      unfold cs1 at hi hil
      split at hi
      · rename_i he
        simp [he] at hil
        have : i = 0 := by omega
        subst this
        simp at hi; omega
      · rename_i he
        rw [if_neg he] at hil
        omega
    subst hc
    have hin' : ¬ (i : Int) < (n : Int) := by omega
    go_enter Tryd.func37, Tryd.ntmps37
    go_wp2
    go_ret
    exact ⟨rfl, rfl⟩

theorem SpAt.len {cs : List Nat} {p : Nat} {s : Int × Int} (h : SpAt cs p s) : p < (spAll cs).length := (List.getElem?_eq_some_iff.1 h.get).1
section
variable {W : World} {B B' q : Nat} {x y u v : Value} {cs : Array Value} {t : TypeId}
theorem blk_row0 (h : Blk W B cs t) : Blk (W.drewN q) B cs t := h
theorem blk_row1 (h : Blk W B #[x, y] t) : Blk ((W.drewN q).setCell ⟨B, 1, none⟩ v) B #[x, v] t := by
  have := Blk.set (i := 1) (blk_row0 (q := q) h) v; simpa using this
theorem blk_row2 (h : Blk W B #[x, y] t) : Blk (((W.drewN q).setCell ⟨B, 0, none⟩ u).setCell ⟨B, 1, none⟩ v) B #[u, v] t := by
  have := Blk.set (i := 1) (Blk.set (i := 0) (blk_row0 (q := q) h) u) v; simpa using this
theorem blk_oth1 {i : Nat} (hne : B ≠ B') (h : Blk W B cs t) : Blk ((W.drewN q).setCell ⟨B', i, none⟩ v) B cs t := Blk.other (blk_row0 (q := q) h) hne v
theorem blk_oth2 {i j : Nat} (hne : B ≠ B') (h : Blk W B cs t) : Blk (((W.drewN q).setCell ⟨B', i, none⟩ u).setCell ⟨B', j, none⟩ v) B cs t := Blk.other (blk_oth1 (q := q) hne h) hne v
end
theorem cs1_len2 {cs : List Nat} {i : Nat} (h : i < (cs1 cs).length) : i ≤ cs.length := by
  unfold cs1 at h; split at h
  · simp at h; omega
  · omega

set_option maxRecDepth 10000 in
set_option maxHeartbeats 6400000 in
theorem l10Move_any (a : Option Addr) (n ca : Nat) (cs : List Nat) (s : Int × Int) (p : Nat) (rows : Int) (w : World) (ha : Rd .i64 w a n (natsI cs)) (hn : n ≤ 1000000) (hpos : ∀ c ∈ cs, 1 ≤ c) (hsum : (cs1 cs).sum ≤ 1000000000) (hs : SpAt cs p s) (hr1 : -1000000 ≤ rows) (hr2 : rows ≤ 1000000) :
    Calls Tryd.prog 21 #[.slice a n ca, .agg #[.int .i64 s.1, .int .i64 s.2], .int .i64 rows] w fun e w' => e = .returned (.agg #[.int .i64 (spMove cs s rows).1, .int .i64 (spMove cs s rows).2]) ∧ Below w.heap.size w w' := by
  have hlen := ha.1
  rw [natsI_len] at hlen
  have HS0 := hid hs
  clear hs
  by_cases hr : 0 ≤ rows
  · obtain ⟨m0, rfl⟩ : ∃ m0 : Nat, rows = (m0 : Int) := ⟨rows.toNat, by omega⟩
    obtain ⟨G, hG⟩ : ∃ G, spMove cs s (m0 : Int) = G := ⟨_, rfl⟩
    have hG0 : spGo cs m0 s = G := by rw [← hG]; unfold spMove; rw [if_pos (by omega)]; rw [Int.toNat_natCast]
    rw [hG]
    obtain ⟨g1, g2⟩ := G
    clear hG hr hr1
    have HG0 := hid hG0
    clear hG0
    obtain ⟨s1, s2⟩ := s
    go_enter Tryd.func21, Tryd.ntmps21
    go_wp2
    go_loopw [2] (fun t wr => ∃ (m : Nat) (u : Int × Int), t = .int .i64 m ∧ m ≤ 1000000 ∧ Blk wr w.heap.size #[.int .i64 u.1, .int .i64 u.2] 29 ∧ Blk wr (w.heap.size + 1) #[.int .i64 0, .int .i64 0] 29 ∧ Hid (∃ q, SpAt cs q u) ∧ Hid (spGo cs m u = (g1, g2)) ∧ Below w.heap.size w wr) (fun t _ => (intOf t).toNat)
    case atStart => exact ⟨m0, (s1, s2), rfl, by omega, (Blk.new w _ _).alloc _, by have := Blk.new (w.alloc (.cells #[.int .i64 s1, .int .i64 s2] 29)) #[.int .i64 0, .int .i64 0] 29; rw [World.size_alloc] at this; exact this, ⟨p, HS0.out⟩, HG0, ((Below.refl _ _).alloc (Nat.le_refl _) _).alloc (by simp) _⟩
    case round =>
      obtain ⟨m, u, rfl, hm, b4, b6, hsp, hgo, hb⟩ := hrel
      have hra := ha.below hb
      obtain ⟨q, i, j, c, rfl, h1, h2, hq⟩ := hsp.out
      have hSPu : Hid (SpAt cs q ((i : Int), (j : Int))) := ⟨i, j, c, rfl, h1, h2, hq⟩
      have hcle : c ≤ (cs1 cs).sum := by have := baseN_le h1; omega
      have hil := cs1_len2 (List.getElem?_eq_some_iff.1 h1).1
      have c40 : wr.cell? ⟨w.heap.size, 0, none⟩ = some (.int .i64 (i : Int)) := b4.cell 0
      have c41 : wr.cell? ⟨w.heap.size, 1, none⟩ = some (.int .i64 (j : Int)) := b4.cell 1
      have f40 := b4.frozen 0
      have f41 := b4.frozen 1
      have z4 := b4.lt
      have hgd : (cs1 cs).getD i 0 = c := by rw [List.getD_eq_getElem?_getD, h1]; rfl
      have AT := fun w' h => l10At_any a n ca cs i c w' h hn h1
      have HAT : Hid _ := AT
      have B4 := hid b4
      have B6 := hid b6
      clear AT b4 b6 h1 hq hsp
      by_cases hm0 : 0 < m
      · have hmi : (0 : Int) < (m : Int) := by omega
        have hnx : spGo cs (m - 1) (spNext cs ((i : Int), (j : Int))) = (g1, g2) := by
          have := hgo.out
          rw [show m = (m - 1) + 1 by omega] at this
          exact this
        have hspn := spNext_at hpos hSPu.out
        unfold spNext at hnx hspn
        simp only [Int.toNat_natCast, hgd] at hnx hspn
        have hme : ((m - 1 : Nat) : Int) = (m : Int) - 1 := by omega
        by_cases hj : j + 1 < c
        · have hj' : (j : Int) + 1 < (c : Int) := by omega
          rw [if_pos (by omega)] at hnx hspn
          have HNX := hid hnx
          have HSPN : Hid (∃ q, SpAt cs q ((i : Int), (j : Int) + 1)) := ⟨_, hspn⟩
          have HME := hid hme
          clear hnx hspn hme hgo hm0
          go_wp2
          go_quiet ((go_at_call 37; exact Calls.quiet_of_same (HAT.out _ hra)))
          go_wp2
          go_roundw
          case rel => exact ⟨m - 1, ((i : Int), (j : Int) + 1), by rw [HME.out], by omega, blk_row1 B4.out, (show Blk (wr.drewN _) _ _ _ from B6.out).other (by omega) _, HSPN, HNX, (below_drewN hb _).setCell (by simp) _⟩
          case measure => rw [show intOf (Value.int .i64 (m : Int)) = (m : Int) from rfl, show intOf (Value.int .i64 ((m : Int) - 1)) = (m : Int) - 1 from rfl]; omega
        · have hj' : ¬ (j : Int) + 1 < (c : Int) := by omega
          rw [if_neg (by omega)] at hnx hspn
          by_cases hi : i + 1 < n
          · have hi' : (i : Int) + 1 < (n : Int) := by omega
            rw [if_pos (by rw [hlen]; exact hi')] at hnx hspn
            have HNX := hid hnx
            have HSPN : Hid (∃ q, SpAt cs q ((i : Int) + 1, 0)) := ⟨_, hspn⟩
            have HME := hid hme
            clear hnx hspn hme hgo hm0
            go_wp2
            go_quiet ((go_at_call 37; exact Calls.quiet_of_same (HAT.out _ hra)))
            go_wp2
            go_roundw
            case rel => exact ⟨m - 1, ((i : Int) + 1, 0), by rw [HME.out], by omega, blk_row2 B4.out, ((show Blk (wr.drewN _) _ _ _ from B6.out).other (by omega) _).other (by omega) _, HSPN, HNX, ((below_drewN hb _).setCell (by simp) _).setCell (by simp) _⟩
            case measure => rw [show intOf (Value.int .i64 (m : Int)) = (m : Int) from rfl, show intOf (Value.int .i64 ((m : Int) - 1)) = (m : Int) - 1 from rfl]; omega
          · have hi' : ¬ (i : Int) + 1 < (n : Int) := by omega
            rw [if_neg (by rw [hlen]; exact hi')] at hnx hspn
            have HNX := hid hnx
            have HSPN : Hid (∃ q, SpAt cs q ((i : Int), (j : Int))) := ⟨_, hspn⟩
            have HME := hid hme
            clear hnx hspn hme hgo hm0
            go_wp2
            go_quiet ((go_at_call 37; exact Calls.quiet_of_same (HAT.out _ hra)))
            go_wp2
            go_roundw
            case rel => exact ⟨m - 1, ((i : Int), (j : Int)), by rw [HME.out], by omega, (show Blk (wr.drewN _) _ _ _ from B4.out), (show Blk (wr.drewN _) _ _ _ from B6.out), HSPN, HNX, below_drewN hb _⟩
            case measure => rw [show intOf (Value.int .i64 (m : Int)) = (m : Int) from rfl, show intOf (Value.int .i64 ((m : Int) - 1)) = (m : Int) - 1 from rfl]; omega
      · have hm1 : m = 0 := by omega
        subst hm1
        have hu := hgo.out
        simp only [spGo, Prod.mk.injEq] at hu
        obtain ⟨rfl, rfl⟩ := hu
        have c60 : wr.cell? ⟨w.heap.size + 1, 0, none⟩ = some (.int .i64 0) := B6.out.cell 0
        have c61 : wr.cell? ⟨w.heap.size + 1, 1, none⟩ = some (.int .i64 0) := B6.out.cell 1
        have f60 := B6.out.frozen 0
        have f61 := B6.out.frozen 1
        have z6 := B6.out.lt
        go_wp2
        refine wp_loop_rounds 1 ?_
        rw [rounds_succ]
        go_wp2
        exact bodyPost_ret (v := .agg #[.int .i64 (i : Int), .int .i64 (j : Int)]) (by simp [results, Tryd.results21, go_sem, c60, c61]) rfl ⟨rfl, (hb.setCell (by simp) _).setCell (by simp) _⟩
  · obtain ⟨m0, rfl⟩ : ∃ m0 : Nat, rows = -(m0 : Int) := ⟨(-rows).toNat, by omega⟩
    obtain ⟨G, hG⟩ : ∃ G, spMove cs s (-(m0 : Int)) = G := ⟨_, rfl⟩
    have hG0 : spBack cs m0 s = G := by rw [← hG]; unfold spMove; rw [if_neg hr]; rw [Int.neg_neg, Int.toNat_natCast]
    rw [hG]
    obtain ⟨g1, g2⟩ := G
    have hm00 : ¬ (0 : Int) < -(m0 : Int) := by omega
    have hm01 : m0 ≤ 1000000 := by omega
    clear hG hr hr1 hr2
    have HG0 := hid hG0
    clear hG0
    obtain ⟨s1, s2⟩ := s
    go_enter Tryd.func21, Tryd.ntmps21
    go_wp2
    refine wp_loop_rounds 1 ?_
    rw [rounds_succ]
    go_wp2
    go_loopw [2] (fun t wr => ∃ (m : Nat) (u : Int × Int), t = .int .i64 (-(m : Int)) ∧ m ≤ 1000000 ∧ Blk wr w.heap.size #[.int .i64 u.1, .int .i64 u.2] 29 ∧ Blk wr (w.heap.size + 1) #[.int .i64 0, .int .i64 0] 29 ∧ Hid (∃ q, SpAt cs q u) ∧ Hid (spBack cs m u = (g1, g2)) ∧ Below w.heap.size w wr) (fun t _ => (- intOf t).toNat)
    case atStart => exact ⟨m0, (s1, s2), rfl, by omega, (Blk.new w _ _).alloc _, by have := Blk.new (w.alloc (.cells #[.int .i64 s1, .int .i64 s2] 29)) #[.int .i64 0, .int .i64 0] 29; rw [World.size_alloc] at this; exact this, ⟨p, HS0.out⟩, HG0, ((Below.refl _ _).alloc (Nat.le_refl _) _).alloc (by simp) _⟩
    case round =>
      obtain ⟨m, u, rfl, hm, b4, b6, hsp, hgo, hb⟩ := hrel
      have hra := ha.below hb
      obtain ⟨q, i, j, c, rfl, h1, h2, hq⟩ := hsp.out
      have hSPu : Hid (SpAt cs q ((i : Int), (j : Int))) := ⟨i, j, c, rfl, h1, h2, hq⟩
      have hcle : c ≤ (cs1 cs).sum := by have := baseN_le h1; omega
      have hil := cs1_len2 (List.getElem?_eq_some_iff.1 h1).1
      have c40 : wr.cell? ⟨w.heap.size, 0, none⟩ = some (.int .i64 (i : Int)) := b4.cell 0
      have c41 : wr.cell? ⟨w.heap.size, 1, none⟩ = some (.int .i64 (j : Int)) := b4.cell 1
      have f40 := b4.frozen 0
      have f41 := b4.frozen 1
      have z4 := b4.lt
      have B4 := hid b4
      have B6 := hid b6
      clear b4 b6 h1 hq hsp
      by_cases hm0 : 0 < m
      · have hmi : -(m : Int) < 0 := by omega
        have hnx : spBack cs (m - 1) (spPrev cs ((i : Int), (j : Int))) = (g1, g2) := by
          have := hgo.out
          rw [show m = (m - 1) + 1 by omega] at this
          exact this
        have hspn := spPrev_at hpos hSPu.out
        unfold spPrev at hnx hspn
        simp only at hnx hspn
        have hme : -((m - 1 : Nat) : Int) = -(m : Int) + 1 := by omega
        have HME := hid hme
        clear hme
        by_cases hj : 0 < j
        · have hj' : 0 < (j : Int) := by omega
          rw [if_pos (by omega)] at hnx hspn
          have HNX := hid hnx
          have HSPN : Hid (∃ q, SpAt cs q ((i : Int), (j : Int) - 1)) := ⟨_, hspn⟩
          clear hnx hspn hgo hm0
          go_wp2
          go_roundw
          case rel => exact ⟨m - 1, ((i : Int), (j : Int) - 1), by rw [HME.out], by omega, blk_row1 (q := 0) B4.out, blk_oth1 (q := 0) (by omega) B6.out, HSPN, HNX, hb.setCell (by simp) _⟩
          case measure => rw [show intOf (Value.int .i64 (-(m : Int))) = -(m : Int) from rfl, show intOf (Value.int .i64 (-(m : Int) + 1)) = -(m : Int) + 1 from rfl]; omega
        · have hj' : ¬ 0 < (j : Int) := by omega
          rw [if_neg (by omega)] at hnx hspn
          by_cases hi : 0 < i
          · have hi' : 0 < (i : Int) := by omega
            rw [if_pos hi'] at hnx hspn
            obtain ⟨J, rfl⟩ : ∃ J, i = J + 1 := ⟨i - 1, by omega⟩
            have hJn : J < n := by omega
            obtain ⟨B, o, rfl, hcell⟩ := hra.at hJn
            have hk := hcell J hJn
            have hgd : (natsI cs).getD J 0 = (cs.getD J 0 : Nat) := by
              unfold natsI; rw [List.getD_eq_getElem?_getD, List.getD_eq_getElem?_getD, List.getElem?_map]
              rw [List.getElem?_eq_getElem (by omega)]; rfl
            have hKle : cs.getD J 0 ≤ (cs1 cs).sum := by
              have hne : cs ≠ [] := by intro h; subst h; simp at hlen; omega
              have hc1 : cs1 cs = cs := by simp [cs1, hne]
              rw [hc1, List.getD_eq_getElem?_getD, List.getElem?_eq_getElem (by omega)]
              have := baseN_le (List.getElem?_eq_getElem (show J < cs.length by omega)); simp; omega
            rw [hgd] at hk
            have hIJ : ((J + 1 : Nat) : Int) - 1 = (J : Int) := by omega
            rw [hIJ, Int.toNat_natCast] at hnx hspn
            generalize cs.getD J 0 = K at *
            have HNX := hid hnx
            have HSPN : Hid (∃ q, SpAt cs q ((J : Int), (K : Int) - 1)) := ⟨_, hspn⟩
            have hI := hIJ
            obtain ⟨I, hIe⟩ : ∃ I : Int, ((J + 1 : Nat) : Int) = I := ⟨_, rfl⟩
            rw [hIe] at c40 hi' hI
            have hBS : B ≠ w.heap.size := by
              have := (hcell J hJn)
              intro h
              have hh := ha.at hJn
              obtain ⟨B', o', he, hc'⟩ := hh
              simp only [Option.some.injEq, Addr.mk.injEq] at he
              have := World.block_lt_of_cell? _ _ (hc' J hJn)
              simp at this
              omega
            have HB4 : Hid (Blk wr w.heap.size #[.int .i64 I, .int .i64 (j : Int)] 29) := by have := B4.out; rw [hIe] at this; exact this
            clear hnx hspn hgo hm0 hcell hgd hra hIJ B4 hSPu hIe
            go_wp2
            go_region
            go_wp2
            go_roundw
            case rel => exact ⟨m - 1, ((J : Int), (K : Int) - 1), by rw [HME.out], by omega, blk_row2 (q := 0) HB4.out, blk_oth2 (q := 0) (by omega) B6.out, HSPN, HNX, ((hb.setCell (by simp) _).setCell (by simp) _).drew⟩
            case measure => rw [show intOf (Value.int .i64 (-(m : Int))) = -(m : Int) from rfl, show intOf (Value.int .i64 (-(m : Int) + 1)) = -(m : Int) + 1 from rfl]; omega
          · have hi' : ¬ 0 < (i : Int) := by omega
            rw [if_neg hi'] at hnx hspn
            have HNX := hid hnx
            have HSPN : Hid (∃ q, SpAt cs q ((i : Int), (j : Int))) := ⟨_, hspn⟩
            clear hnx hspn hgo hm0
            go_wp2
            go_roundw
            case rel => exact ⟨m - 1, ((i : Int), (j : Int)), by rw [HME.out], by omega, B4.out, blk_row0 (q := 0) B6.out, HSPN, HNX, hb⟩
            case measure => rw [show intOf (Value.int .i64 (-(m : Int))) = -(m : Int) from rfl, show intOf (Value.int .i64 (-(m : Int) + 1)) = -(m : Int) + 1 from rfl]; omega
      · have hm1 : m = 0 := by omega
        subst hm1
        have hu := hgo.out
        simp only [spBack, Prod.mk.injEq] at hu
        obtain ⟨rfl, rfl⟩ := hu
        have c60 : wr.cell? ⟨w.heap.size + 1, 0, none⟩ = some (.int .i64 0) := B6.out.cell 0
        have c61 : wr.cell? ⟨w.heap.size + 1, 1, none⟩ = some (.int .i64 0) := B6.out.cell 1
        have f60 := B6.out.frozen 0
        have f61 := B6.out.frozen 1
        have z6 := B6.out.lt
        go_wp2
        exact bodyPost_ret (v := .agg #[.int .i64 (i : Int), .int .i64 (j : Int)]) (by simp [results, Tryd.results21, go_sem, c60, c61]) rfl ⟨rfl, (hb.setCell (by simp) _).setCell (by simp) _⟩
end Go.Proofs.YtjgmkcmlkffjlaaDoor
