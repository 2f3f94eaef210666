/-
  Chapter 8: a set is entered in a copied table, by the specification.
-/
import Derived.Test.YtlemdjgpkmjihaaGreatEnt0
import Derived.Test.YtlemdjgpkmjihaaGreatTab1
import Derived.Deep.RegionHeld3
namespace Go.Proofs.YtlemdjgpkmjihaaGreat
open Go.RowKit
set_option linter.unusedVariables false
set_option linter.unusedSimpArgs false

/-- What is written elsewhere leaves a row of states. -/
theorem RowT.other {w w' : World} {lo hi n B : Nat} {v : Value} {ts : List St} {cs : Array Value} {t : TypeId} (h : RowT false 91 2 99 w lo hi v n ts) (hb : Blk w B cs t) (h1 : t ≠ 91) (h2 : t ≠ 2) (h3 : t ≠ 99) (hg : w.grownBy w' (some B)) :
    RowT false 91 2 99 w' lo hi v n ts := by
  have hno : ∀ {e : TypeId}, t ≠ e → ∀ cs' q, w.heap[B]? ≠ some (.cells cs' e q) := by
    intro e hne cs' q hc
    rw [show w.heap[B]? = _ from hb] at hc
    simp at hc
    exact hne hc.2.1
  obtain ⟨us, k1, k2, k3, k4⟩ := h
  refine ⟨us, ⟨⟨k1.1.1, World.ownsRow.kept k1.1.2 hg ?_⟩, k1.2⟩, k2, fun j u x hu hx => (tabOk false).grown (k3 j u x hu hx) hg (fun g hgm e => ?_), k4⟩
  · rcases k1.1.2.2 with ⟨rfl, _⟩ | ⟨g, cap, cur, rfl, _, hh, _⟩
    · exact .inl rfl
    · refine .inr (fun e => ?_)
      simp [Value.ownBlock] at e
      subst e
      exact hno h1 _ _ hh
  · cases e
    have hsub : ∀ {e : TypeId} {size : Nat} {s : Value × Option Nat} {k : Nat} {vs : List Value}, t ≠ e → SubV false e size w lo hi s k vs → s.2 = some B → False := by
      intro e size s k vs hne hs hgm
      rcases hs with ⟨h0, _⟩ | ⟨g', cap, e', _, ho⟩
      · rw [h0] at hgm; cases hgm
      · rw [e'] at hgm
        simp at hgm
        subst hgm
        rcases ho.2 with h0 | ⟨g2, cap2, cur, hv, _, hcur, _⟩
        · simp at h0
        · simp at hv
          rw [← hv.1] at hcur
          exact hno hne _ _ hcur
    rcases (suB_mem _ _).1 hgm with hgm | hgm
    · exact hsub h2 (k3 j u x hu hx).1 hgm
    · exact hsub h3 (k3 j u x hu hx).2 hgm

/-- What a table is behind a set's entry. -/
def entP (z : Int) (ts : List St) (xs : List Int) : Int := if xs ∈ ts.map (·.1) then tAt ts xs else if z ≤ ts.length then 0 else ts.length
def entG (z : Int) (ts : List St) (xs : List Int) : Bool := if xs ∈ ts.map (·.1) then false else decide (z ≤ ts.length)
def entS (z : Int) (ts : List St) (xs : List Int) : List St := if xs ∈ ts.map (·.1) then ts else if z ≤ ts.length then [(xs, [])] else ts ++ [(xs, [])]

theorem rd_keptE {k : IntKind} {w w' : World} {a : Option Addr} {n : Nat} {xs : List Int} {row : Option Nat} (h : Rd k w a n xs) (hg : w.grownBy w' row) (hne : ∀ ad, a = some ad → some ad.block ≠ row) : Rd k w' a n xs := by
  refine ⟨h.1, ?_⟩
  rcases h.2 with h0 | ⟨b, off, rfl, hc⟩
  · exact .inl h0
  · refine .inr ⟨b, off, rfl, fun j hj => ?_⟩
    have hx := hc j hj
    rw [World.cell?_of_block (hg.block b (block_lt_of_cell hx) (hne _ rfl))]
    exact hx

set_option maxHeartbeats 3200000 in
set_option maxRecDepth 20000 in
theorem l8Enter_any (base lo B : Nat) (z : Int) (va : Option Addr) (n cva : Nat) (ts : List St) (s : Option Addr) (m cs : Nat) (xs : List Int) (w : World) (hbk : Blk w B #[.int .i64 z, .slice va n cva] 30)
    (hrow : RowT false 91 2 99 w lo w.heap.size (.slice va n cva) n ts) (hrp : Rd .i64 w s m xs) (hs : (n : Int) + stN ts ≤ 1048576) (hm : m ≤ 80) (hlo : lo ≤ w.heap.size) (hbl : base ≤ lo) (hbB : base ≤ B) (hne : 0 < m → ∀ ad, s = some ad → ad.block ≠ B) :
    Calls Tryz.prog 52 #[.pointer (some ⟨B, 0, none⟩), .slice s m cs] w fun e w' => e = .returned (.tuple #[.int .i64 (entP z ts xs), .bool (entG z ts xs)]) ∧ ∃ va' n' c', Blk w' B #[.int .i64 z, .slice va' n' c'] 30 ∧ RowT false 91 2 99 w' lo w'.heap.size (.slice va' n' c') n' (entS z ts xs) ∧ Below base w w' := by
  obtain ⟨iI, hI, hI0, hI1, hI2⟩ := info_parts info64
  have hlen : ts.length = n := RowN.len hrow
  obtain ⟨P, hP⟩ : ∃ P, P = entP z ts xs := ⟨_, rfl⟩
  obtain ⟨G, hG⟩ : ∃ G, G = entG z ts xs := ⟨_, rfl⟩
  obtain ⟨E, hE⟩ : ∃ E, E = entS z ts xs := ⟨_, rfl⟩
  rw [← hP, ← hG, ← hE]
  have g0 : w.cell? ⟨B, 0, none⟩ = some (.int .i64 z) := by have := hbk.cell 0; simpa using this
  have g1 : w.cell? ⟨B, 1, none⟩ = some (.slice va n cva) := by have := hbk.cell 1; simpa using this
  have gf1 : w.frozen? ⟨B, 1, none⟩ = false := hbk.frozen 1
  have HRP := hid hrp
  have HA : Hid _ := l8At_any B va n cva ts s m cs xs w g1 (RowT.read hrow) hrp hs (by omega)
  have HPP := hid hP
  have HGG := hid hG
  have HEE := hid hE
  have HLN := hid hlen
  clear hP hG hE hlen
  go_enter Tryz.func52, Tryz.ntmps52
  go_wp2_with fail
  refine Calls.mono HA.out ?_
  rintro e w1 ⟨rfl, d, rfl⟩
  have HB1 : Hid (Below w.heap.size w (w.drewN d)) := hid (below_drewN (Below.refl _ _) d)
  clear HA
  rcases tAt_spec ts xs with ⟨ht, hnot⟩ | ⟨j, ht, hj, -⟩
  · rw [ht]
    have HN := hid hnot
    have HR := hid hrow
    have HK := hid hbk
    clear hnot ht hrow hbk
    by_cases hz : z ≤ (n : Int)
    · go_wp2_with fail
      go_quiet (fail)
      go_wp2_with fail
      obtain ⟨V, hV⟩ : ∃ V, V = (w.drewN (d + nq)).setCell ⟨B, 1, none⟩ (.slice none 0 0) := ⟨_, rfl⟩
      have hb1 : Below w.heap.size w (w.drewN (d + nq)) := below_drewN (Below.refl _ _) _
      have hgs := set_grown (w.drewN (d + nq)) B 1 (.slice none 0 0)
      rw [← hV] at hgs
      have hVs : w.heap.size ≤ V.heap.size := Nat.le_trans hb1.size hgs.size
      have bk2 := (Blk.of HK.out hb1).set (i := 1) (.slice none 0 0)
      rw [← hV] at bk2
      obtain ⟨va2, n2, cva2, ts2, hv2, hn2, hc2, hts2⟩ : ∃ (va2 : Option Addr) (n2 cva2 : Nat) (ts2 : List St), va2 = none ∧ n2 = 0 ∧ cva2 = 0 ∧ ts2 = [] := ⟨_, _, _, _, rfl, rfl, rfl, rfl⟩
      have HBK : Hid (Blk V B #[.int .i64 z, .slice va2 n2 cva2] 30) := by rw [hv2, hn2, hc2]; simpa using hid bk2
      have HRW : Hid (RowT false 91 2 99 V lo V.heap.size (.slice va2 n2 cva2) n2 ts2) := by rw [hv2, hn2, hc2, hts2]; exact hid (RowN.nil _ _ _)
      have HRD : Hid (Rd .i64 V s m xs) := (by by_cases h0 : 0 < m; exact hid (rd_keptE (HRP.out.below hb1) hgs (fun ad had e => hne h0 ad had (by cases e; rfl))); exact hid ⟨HRP.out.1, .inl (by omega)⟩)
      have HBV : Hid (Below base w V) := hid ((hb1.mono (by omega)).grown hgs (by have := hb1.size; omega) (fun j hj => by cases hj; omega))
      have HN2 := hid hn2
      have HT2 := hid hts2
      rw [← hV]
      have hn2le : n2 ≤ 1048576 := by omega
      clear hV hb1 hgs bk2 hv2 hn2 hc2 hts2 g0 g1 gf1 hrp
      have hVl : lo ≤ V.heap.size := by omega
      refine region_join (fun act a' w' => ∃ z33 z35 z36 z37 a3 e3, a' = (((((((((((((act.put (some 28) (.pointer (some ⟨B, 0, none⟩))).put (some 29) (.pointer (some ⟨B, 0, none⟩))).put (some 30) (.pointer (some ⟨B, 0, none⟩))).put (some 31) (.pointer (some ⟨B, 1, none⟩))).put (some 32) (.slice va2 n2 cva2)).put (some 33) (z33)).put (some 34) (.slice s m cs)).put (some 35) (z35)).put (some 36) (z36)).put (some 37) (z37)).put (some 38) (.slice a3 (n2 + 1) e3)).put (some 39) (.pointer (some ⟨B, 0, none⟩))).put (some 40) (.pointer (some ⟨B, 1, none⟩))) ∧ Blk w' B #[.int .i64 z, .slice a3 (n2 + 1) e3] 30 ∧ RowT false 91 2 99 w' lo w'.heap.size (.slice a3 (n2 + 1) e3) (n2 + 1) (ts2 ++ [(xs, [])]) ∧ Below base V w') ?_ ?_
      · obtain ⟨D, hD⟩ : ∃ D, D = V.drew := ⟨_, rfl⟩
        have hbd : Below V.heap.size V D := by rw [hD]; exact (Below.refl _ _).drew
        have hsd : D.heap.size = V.heap.size := by rw [hD]; rfl
        have HROW : Hid (RowT false 91 2 99 D lo D.heap.size (.slice va2 n2 cva2) n2 ts2) := by rw [hsd]; exact hid (RowN.below (tabOk false) HRW.out hbd)
        have HBB : Hid (Blk D B #[.int .i64 z, .slice va2 n2 cva2] 30) := hid (Blk.of HBK.out hbd)
        have HBD : Hid (base ≤ D.heap.size) := by rw [hsd]; exact hid (by omega)
        have HVD : Hid (Below base V D) := hid (hbd.mono (by omega))
        have hrp := HRD.out.below hbd
        have dB : D.cell? ⟨B, 1, none⟩ = some (.slice va2 n2 cva2) := by have := HBB.out.cell 1; simpa using this
        have hb0 : Below D.heap.size D D := Below.refl _ _
        have hlD : lo ≤ D.heap.size := by omega
        have hBD : B < D.heap.size := HBB.out.lt
        clear hsd hbd
        refine wp_region_held_drew (S := fun _ => True) (by kernel_rfl) trivial (fun hS => ?_)
        rw [← hD]
        clear hD
        refine wpAnyH_take (i := 0) (v := (.pointer (some ⟨B, 0, none⟩))) rfl (by as_aux_lemma => kernel_rfl) (by as_aux_lemma => kernel_rfl) (by as_aux_lemma => kernel_rfl) (fun _ _ _ h => nomatch h.1) (Or.inl ⟨by kernel_rfl, ?_⟩) hS ?_
        · intro w hSw; (try dsimp only at hSw); go_simp
        simp only [Act.put, List.getElem_toArray, List.getElem_cons_zero, List.getElem_cons_succ, List.setIfInBounds_toArray, List.set_cons_zero, List.set_cons_succ]
        refine wpAnyH_take (i := 1) (v := (.pointer (some ⟨B, 0, none⟩))) rfl (by as_aux_lemma => kernel_rfl) (by as_aux_lemma => kernel_rfl) (by as_aux_lemma => kernel_rfl) (fun _ _ _ h => nomatch h.1) (Or.inl ⟨by kernel_rfl, ?_⟩) hS ?_
        · intro w hSw; (try dsimp only at hSw); go_simp
        simp only [Act.put, List.getElem_toArray, List.getElem_cons_zero, List.getElem_cons_succ, List.setIfInBounds_toArray, List.set_cons_zero, List.set_cons_succ]
        refine wpAnyH_take (i := 2) (v := (.pointer (some ⟨B, 0, none⟩))) rfl (by as_aux_lemma => kernel_rfl) (by as_aux_lemma => kernel_rfl) (by as_aux_lemma => kernel_rfl) (fun _ _ _ h => nomatch h.1) (Or.inl ⟨by kernel_rfl, ?_⟩) hS ?_
        · intro w hSw; (try dsimp only at hSw); go_simp
        simp only [Act.put, List.getElem_toArray, List.getElem_cons_zero, List.getElem_cons_succ, List.setIfInBounds_toArray, List.set_cons_zero, List.set_cons_succ]
        refine wpAnyH_take (i := 3) (v := (.pointer (some ⟨B, 1, none⟩))) rfl (by as_aux_lemma => kernel_rfl) (by as_aux_lemma => kernel_rfl) (by as_aux_lemma => kernel_rfl) (fun _ _ _ h => nomatch h.1) (Or.inl ⟨by kernel_rfl, ?_⟩) hS ?_
        · intro w hSw; (try dsimp only at hSw); go_simp
        simp only [Act.put, List.getElem_toArray, List.getElem_cons_zero, List.getElem_cons_succ, List.setIfInBounds_toArray, List.set_cons_zero, List.set_cons_succ]
        refine wpAnyH_take (i := 6) (v := (.slice s m cs)) rfl (by as_aux_lemma => kernel_rfl) (by as_aux_lemma => kernel_rfl) (by as_aux_lemma => kernel_rfl) (fun _ _ _ h => nomatch h.1) (Or.inl ⟨by kernel_rfl, ?_⟩) hS ?_
        · intro w hSw; (try dsimp only at hSw); go_simp
        simp only [Act.put, List.getElem_toArray, List.getElem_cons_zero, List.getElem_cons_succ, List.setIfInBounds_toArray, List.set_cons_zero, List.set_cons_succ]
        refine wpAnyH_ready (rs := [4, 5]) (by as_aux_lemma => kernel_rfl) (by simp) ?_
        refine AllReadyH.cons rfl (fun K hK => ?_) (AllReadyH.cons rfl (fun K hK => ?_) AllReadyH.nil)
        · skip
          have k1 := cell_later hb0 dB
          go_simp
          refine hK.out _ _ (trivial) (fun hS2 => ?_)
          clear hK K hS
          have hS := hS2
          clear hS2
          (try simp only [Act.put, List.getElem_toArray, List.getElem_cons_zero, List.getElem_cons_succ, List.setIfInBounds_toArray, List.set_cons_zero, List.set_cons_succ])
          clear k1
          refine wpAnyH_ready (rs := [5]) (by as_aux_lemma => kernel_rfl) (by simp) ?_
          refine AllReadyH.cons rfl (fun K hK => ?_) AllReadyH.nil
          rw [if_pos (by rfl)]
          go_simp
          obtain ⟨W1, hW⟩ : ∃ V, V = D.alloc (.cells #[] 2) := ⟨_, rfl⟩
          rw [← hW]
          have hb1 : Below D.heap.size D W1 := by rw [hW]; exact hb0.alloc hb0.size _
          have oI1 : Own .i64 2 W1 D.heap.size (.slice (some ⟨D.heap.size, 0, none⟩) 0 0) 0 [] := by rw [hW]; exact own_lit D #[] 0 D.heap.size [] rfl rfl hb0.size (by unfold maxLen; omega)
          clear hW
          refine hK.out _ _ (trivial) (fun hS2 => ?_)
          clear hK K hS
          have hS := hS2
          clear hS2
          (try simp only [Act.put, List.getElem_toArray, List.getElem_cons_zero, List.getElem_cons_succ, List.setIfInBounds_toArray, List.set_cons_zero, List.set_cons_succ])
          refine wpAnyH_ready (rs := [7]) (by as_aux_lemma => kernel_rfl) (by simp) ?_
          refine AllReadyH.cons rfl (fun K hK => ?_) AllReadyH.nil
          rw [if_pos (by rfl)]
          refine wp_append_rd _ _ 83 rfl .i64 D.heap.size 2 iI 8 Tryz.underlying83 hI hI0 hI1 hI2 _ 0 [] rfl oI1 s m cs xs rfl (hrp.below hb1) (by unfold maxLen; omega) (by omega) hb1.size ?_
          intro y1 W2 oI2 hg2
          rw [Nat.zero_add, List.nil_append] at oI2
          obtain ⟨a1, e1, rfl, -, -⟩ := (RowI.of oI2).shape
          have hb2 := hb1.grown hg2 hb1.size (fun j hj => (oI1.lt j hj).1)
          refine hK.out _ _ (trivial) (fun hS2 => ?_)
          clear hK K hS
          have hS := hS2
          clear hS2
          (try simp only [Act.put, List.getElem_toArray, List.getElem_cons_zero, List.getElem_cons_succ, List.setIfInBounds_toArray, List.set_cons_zero, List.set_cons_succ])
          refine wpAnyH_take (i := 8) (v := (.agg #[.slice a1 m e1, .slice none 0 0])) rfl (by as_aux_lemma => kernel_rfl) (by as_aux_lemma => kernel_rfl) (by as_aux_lemma => kernel_rfl) (fun _ _ _ h => nomatch h.1) (Or.inl ⟨by kernel_rfl, ?_⟩) hS ?_
          · intro w hSw; (try dsimp only at hSw); go_simp
          simp only [Act.put, List.getElem_toArray, List.getElem_cons_zero, List.getElem_cons_succ, List.setIfInBounds_toArray, List.set_cons_zero, List.set_cons_succ]
          refine wpAnyH_ready (rs := [9]) (by as_aux_lemma => kernel_rfl) (by simp) ?_
          refine AllReadyH.cons rfl (fun K hK => ?_) AllReadyH.nil
          rw [if_pos (by rfl)]
          go_simp
          obtain ⟨W3, hW⟩ : ∃ V, V = W2.alloc (.cells #[.slice a1 m e1, .slice none 0 0] 91) := ⟨_, rfl⟩
          rw [← hW]
          have hb3 : Below D.heap.size D W3 := by rw [hW]; exact hb2.alloc hb2.size _
          have hg3 : W2.grownBy W3 none := by rw [hW]; exact World.grownBy_alloc _ _ none
          have oI3 := oI2.kept hg3 (fun _ _ e => nomatch e)
          have hnw : Blk W3 W2.heap.size #[.slice a1 m e1, .slice none 0 0] 91 := by rw [hW]; exact Blk.new _ _ _
          clear hW
          refine hK.out _ _ (trivial) (fun hS2 => ?_)
          clear hK K hS
          have hS := hS2
          clear hS2
          (try simp only [Act.put, List.getElem_toArray, List.getElem_cons_zero, List.getElem_cons_succ, List.setIfInBounds_toArray, List.set_cons_zero, List.set_cons_succ])
          refine wpAnyH_ready (rs := [10]) (by as_aux_lemma => kernel_rfl) (by simp) ?_
          refine AllReadyH.cons rfl (fun K hK => ?_) AllReadyH.nil
          rw [if_pos (by rfl)]
          have hrw := RowN.below (tabOk false) HROW.out hb3
          obtain ⟨us, hus⟩ : ∃ us : List Su, W3.ownsRow lo 91 2 (.slice va2 n2 cva2) n2 (us.flatMap suE) := by obtain ⟨us, q1, -⟩ := hrw; exact ⟨us, q1.1.2⟩
          refine wp_appSt _ _ rfl lo _ n2 (us.flatMap suE) rfl hus W2.heap.size 1 (.slice a1 m e1) (.slice none 0 0) rfl rfl rfl (by simpa using hnw.cell 0) (by simpa using hnw.cell 1) (by omega) (by have := hb3.size; omega) ?_
          intro y3 W4 ho3 hg4
          have oI9 : Own .i64 2 W3 D.heap.size (.slice a1 m e1) xs.length xs := by rw [hrp.1]; exact oI3
          have hsn := tab_snoc (az := []) hrw oI9 (OwnR.nil _ _ _ _ _) hus ho3 hg4 hlD
          obtain ⟨a3, e3, rfl, -, -⟩ := RowN.shape suE_len hsn
          have bk := Blk.kept (Blk.of HBB.out hb3) hg4 (Blk.not_row (Blk.of HBB.out hb3) (by decide) hus)
          have hb4 : Below base D W4 := (hb3.mono HBD.out).grown hg4 (by have := hb3.size; have := HBD.out; omega) (fun j hj => by have := (World.ownsRow.lt hus j hj).1; omega)
          have x1 := bk.cell 1
          have xf := bk.frozen 1
          simp at x1
          refine hK.out _ _ (trivial) (fun hS2 => ?_)
          clear hK K hS
          have hS := hS2
          clear hS2
          (try simp only [Act.put, List.getElem_toArray, List.getElem_cons_zero, List.getElem_cons_succ, List.setIfInBounds_toArray, List.set_cons_zero, List.set_cons_succ])
          refine wpAnyH_take (i := 11) (v := (.pointer (some ⟨B, 0, none⟩))) rfl (by as_aux_lemma => kernel_rfl) (by as_aux_lemma => kernel_rfl) (by as_aux_lemma => kernel_rfl) (fun _ _ _ h => nomatch h.1) (Or.inl ⟨by kernel_rfl, ?_⟩) hS ?_
          · intro w hSw; (try dsimp only at hSw); go_simp
          simp only [Act.put, List.getElem_toArray, List.getElem_cons_zero, List.getElem_cons_succ, List.setIfInBounds_toArray, List.set_cons_zero, List.set_cons_succ]
          refine wpAnyH_take (i := 12) (v := (.pointer (some ⟨B, 1, none⟩))) rfl (by as_aux_lemma => kernel_rfl) (by as_aux_lemma => kernel_rfl) (by as_aux_lemma => kernel_rfl) (fun _ _ _ h => nomatch h.1) (Or.inl ⟨by kernel_rfl, ?_⟩) hS ?_
          · intro w hSw; (try dsimp only at hSw); go_simp
          simp only [Act.put, List.getElem_toArray, List.getElem_cons_zero, List.getElem_cons_succ, List.setIfInBounds_toArray, List.set_cons_zero, List.set_cons_succ]
          refine wpAnyH_ready (rs := [13]) (by as_aux_lemma => kernel_rfl) (by simp) ?_
          refine AllReadyH.cons rfl (fun K hK => ?_) AllReadyH.nil
          go_simp
          have bk2 := bk.set (i := 1) (.slice a3 (n2 + 1) e3)
          have hgs := set_grown W4 B 1 (.slice a3 (n2 + 1) e3)
          have hbz := hb4.grown hgs (by have := hb4.size; have := HBD.out; omega) (fun j hj => by cases hj; omega)
          refine hK.out _ _ (trivial) (fun hS2 => ?_)
          clear hK K hS
          have hS := hS2
          clear hS2
          (try simp only [Act.put, List.getElem_toArray, List.getElem_cons_zero, List.getElem_cons_succ, List.setIfInBounds_toArray, List.set_cons_zero, List.set_cons_succ])
          refine wpAnyH_done (by kernel_rfl) ?_ _
          refine ⟨rfl, .slice (some ⟨D.heap.size, 0, none⟩) 0 0, .slice a1 m e1, .agg #[.slice a1 m e1, .slice none 0 0], .slice (some ⟨W2.heap.size, 0, none⟩) 1 1, a3, e3, rfl, by simpa using bk2, ?_, HVD.out.trans hbz⟩
          exact RowN.mono (tabOk false) (RowT.other hsn bk (by decide) (by decide) (by decide) hgs) (Nat.le_refl _) hgs.size
        · skip
          rw [if_pos (by rfl)]
          go_simp
          obtain ⟨W1, hW⟩ : ∃ V, V = D.alloc (.cells #[] 2) := ⟨_, rfl⟩
          rw [← hW]
          have hb1 : Below D.heap.size D W1 := by rw [hW]; exact hb0.alloc hb0.size _
          have oI1 : Own .i64 2 W1 D.heap.size (.slice (some ⟨D.heap.size, 0, none⟩) 0 0) 0 [] := by rw [hW]; exact own_lit D #[] 0 D.heap.size [] rfl rfl hb0.size (by unfold maxLen; omega)
          clear hW
          refine hK.out _ _ (trivial) (fun hS2 => ?_)
          clear hK K hS
          have hS := hS2
          clear hS2
          (try simp only [Act.put, List.getElem_toArray, List.getElem_cons_zero, List.getElem_cons_succ, List.setIfInBounds_toArray, List.set_cons_zero, List.set_cons_succ])
          refine wpAnyH_ready (rs := [4, 7]) (by as_aux_lemma => kernel_rfl) (by simp) ?_
          refine AllReadyH.cons rfl (fun K hK => ?_) (AllReadyH.cons rfl (fun K hK => ?_) AllReadyH.nil)
          · skip
            have k1 := cell_later hb1 dB
            go_simp
            refine hK.out _ _ (trivial) (fun hS2 => ?_)
            clear hK K hS
            have hS := hS2
            clear hS2
            (try simp only [Act.put, List.getElem_toArray, List.getElem_cons_zero, List.getElem_cons_succ, List.setIfInBounds_toArray, List.set_cons_zero, List.set_cons_succ])
            clear k1
            refine wpAnyH_ready (rs := [7]) (by as_aux_lemma => kernel_rfl) (by simp) ?_
            refine AllReadyH.cons rfl (fun K hK => ?_) AllReadyH.nil
            rw [if_pos (by rfl)]
            refine wp_append_rd _ _ 83 rfl .i64 D.heap.size 2 iI 8 Tryz.underlying83 hI hI0 hI1 hI2 _ 0 [] rfl oI1 s m cs xs rfl (hrp.below hb1) (by unfold maxLen; omega) (by omega) hb1.size ?_
            intro y1 W2 oI2 hg2
            rw [Nat.zero_add, List.nil_append] at oI2
            obtain ⟨a1, e1, rfl, -, -⟩ := (RowI.of oI2).shape
            have hb2 := hb1.grown hg2 hb1.size (fun j hj => (oI1.lt j hj).1)
            refine hK.out _ _ (trivial) (fun hS2 => ?_)
            clear hK K hS
            have hS := hS2
            clear hS2
            (try simp only [Act.put, List.getElem_toArray, List.getElem_cons_zero, List.getElem_cons_succ, List.setIfInBounds_toArray, List.set_cons_zero, List.set_cons_succ])
            refine wpAnyH_take (i := 8) (v := (.agg #[.slice a1 m e1, .slice none 0 0])) rfl (by as_aux_lemma => kernel_rfl) (by as_aux_lemma => kernel_rfl) (by as_aux_lemma => kernel_rfl) (fun _ _ _ h => nomatch h.1) (Or.inl ⟨by kernel_rfl, ?_⟩) hS ?_
            · intro w hSw; (try dsimp only at hSw); go_simp
            simp only [Act.put, List.getElem_toArray, List.getElem_cons_zero, List.getElem_cons_succ, List.setIfInBounds_toArray, List.set_cons_zero, List.set_cons_succ]
            refine wpAnyH_ready (rs := [9]) (by as_aux_lemma => kernel_rfl) (by simp) ?_
            refine AllReadyH.cons rfl (fun K hK => ?_) AllReadyH.nil
            rw [if_pos (by rfl)]
            go_simp
            obtain ⟨W3, hW⟩ : ∃ V, V = W2.alloc (.cells #[.slice a1 m e1, .slice none 0 0] 91) := ⟨_, rfl⟩
            rw [← hW]
            have hb3 : Below D.heap.size D W3 := by rw [hW]; exact hb2.alloc hb2.size _
            have hg3 : W2.grownBy W3 none := by rw [hW]; exact World.grownBy_alloc _ _ none
            have oI3 := oI2.kept hg3 (fun _ _ e => nomatch e)
            have hnw : Blk W3 W2.heap.size #[.slice a1 m e1, .slice none 0 0] 91 := by rw [hW]; exact Blk.new _ _ _
            clear hW
            refine hK.out _ _ (trivial) (fun hS2 => ?_)
            clear hK K hS
            have hS := hS2
            clear hS2
            (try simp only [Act.put, List.getElem_toArray, List.getElem_cons_zero, List.getElem_cons_succ, List.setIfInBounds_toArray, List.set_cons_zero, List.set_cons_succ])
            refine wpAnyH_ready (rs := [10]) (by as_aux_lemma => kernel_rfl) (by simp) ?_
            refine AllReadyH.cons rfl (fun K hK => ?_) AllReadyH.nil
            rw [if_pos (by rfl)]
            have hrw := RowN.below (tabOk false) HROW.out hb3
            obtain ⟨us, hus⟩ : ∃ us : List Su, W3.ownsRow lo 91 2 (.slice va2 n2 cva2) n2 (us.flatMap suE) := by obtain ⟨us, q1, -⟩ := hrw; exact ⟨us, q1.1.2⟩
            refine wp_appSt _ _ rfl lo _ n2 (us.flatMap suE) rfl hus W2.heap.size 1 (.slice a1 m e1) (.slice none 0 0) rfl rfl rfl (by simpa using hnw.cell 0) (by simpa using hnw.cell 1) (by omega) (by have := hb3.size; omega) ?_
            intro y3 W4 ho3 hg4
            have oI9 : Own .i64 2 W3 D.heap.size (.slice a1 m e1) xs.length xs := by rw [hrp.1]; exact oI3
            have hsn := tab_snoc (az := []) hrw oI9 (OwnR.nil _ _ _ _ _) hus ho3 hg4 hlD
            obtain ⟨a3, e3, rfl, -, -⟩ := RowN.shape suE_len hsn
            have bk := Blk.kept (Blk.of HBB.out hb3) hg4 (Blk.not_row (Blk.of HBB.out hb3) (by decide) hus)
            have hb4 : Below base D W4 := (hb3.mono HBD.out).grown hg4 (by have := hb3.size; have := HBD.out; omega) (fun j hj => by have := (World.ownsRow.lt hus j hj).1; omega)
            have x1 := bk.cell 1
            have xf := bk.frozen 1
            simp at x1
            refine hK.out _ _ (trivial) (fun hS2 => ?_)
            clear hK K hS
            have hS := hS2
            clear hS2
            (try simp only [Act.put, List.getElem_toArray, List.getElem_cons_zero, List.getElem_cons_succ, List.setIfInBounds_toArray, List.set_cons_zero, List.set_cons_succ])
            refine wpAnyH_take (i := 11) (v := (.pointer (some ⟨B, 0, none⟩))) rfl (by as_aux_lemma => kernel_rfl) (by as_aux_lemma => kernel_rfl) (by as_aux_lemma => kernel_rfl) (fun _ _ _ h => nomatch h.1) (Or.inl ⟨by kernel_rfl, ?_⟩) hS ?_
            · intro w hSw; (try dsimp only at hSw); go_simp
            simp only [Act.put, List.getElem_toArray, List.getElem_cons_zero, List.getElem_cons_succ, List.setIfInBounds_toArray, List.set_cons_zero, List.set_cons_succ]
            refine wpAnyH_take (i := 12) (v := (.pointer (some ⟨B, 1, none⟩))) rfl (by as_aux_lemma => kernel_rfl) (by as_aux_lemma => kernel_rfl) (by as_aux_lemma => kernel_rfl) (fun _ _ _ h => nomatch h.1) (Or.inl ⟨by kernel_rfl, ?_⟩) hS ?_
            · intro w hSw; (try dsimp only at hSw); go_simp
            simp only [Act.put, List.getElem_toArray, List.getElem_cons_zero, List.getElem_cons_succ, List.setIfInBounds_toArray, List.set_cons_zero, List.set_cons_succ]
            refine wpAnyH_ready (rs := [13]) (by as_aux_lemma => kernel_rfl) (by simp) ?_
            refine AllReadyH.cons rfl (fun K hK => ?_) AllReadyH.nil
            go_simp
            have bk2 := bk.set (i := 1) (.slice a3 (n2 + 1) e3)
            have hgs := set_grown W4 B 1 (.slice a3 (n2 + 1) e3)
            have hbz := hb4.grown hgs (by have := hb4.size; have := HBD.out; omega) (fun j hj => by cases hj; omega)
            refine hK.out _ _ (trivial) (fun hS2 => ?_)
            clear hK K hS
            have hS := hS2
            clear hS2
            (try simp only [Act.put, List.getElem_toArray, List.getElem_cons_zero, List.getElem_cons_succ, List.setIfInBounds_toArray, List.set_cons_zero, List.set_cons_succ])
            refine wpAnyH_done (by kernel_rfl) ?_ _
            refine ⟨rfl, .slice (some ⟨D.heap.size, 0, none⟩) 0 0, .slice a1 m e1, .agg #[.slice a1 m e1, .slice none 0 0], .slice (some ⟨W2.heap.size, 0, none⟩) 1 1, a3, e3, rfl, by simpa using bk2, ?_, HVD.out.trans hbz⟩
            exact RowN.mono (tabOk false) (RowT.other hsn bk (by decide) (by decide) (by decide) hgs) (Nat.le_refl _) hgs.size
          · skip
            rw [if_pos (by rfl)]
            refine wp_append_rd _ _ 83 rfl .i64 D.heap.size 2 iI 8 Tryz.underlying83 hI hI0 hI1 hI2 _ 0 [] rfl oI1 s m cs xs rfl (hrp.below hb1) (by unfold maxLen; omega) (by omega) hb1.size ?_
            intro y1 W2 oI2 hg2
            rw [Nat.zero_add, List.nil_append] at oI2
            obtain ⟨a1, e1, rfl, -, -⟩ := (RowI.of oI2).shape
            have hb2 := hb1.grown hg2 hb1.size (fun j hj => (oI1.lt j hj).1)
            refine hK.out _ _ (trivial) (fun hS2 => ?_)
            clear hK K hS
            have hS := hS2
            clear hS2
            (try simp only [Act.put, List.getElem_toArray, List.getElem_cons_zero, List.getElem_cons_succ, List.setIfInBounds_toArray, List.set_cons_zero, List.set_cons_succ])
            refine wpAnyH_take (i := 8) (v := (.agg #[.slice a1 m e1, .slice none 0 0])) rfl (by as_aux_lemma => kernel_rfl) (by as_aux_lemma => kernel_rfl) (by as_aux_lemma => kernel_rfl) (fun _ _ _ h => nomatch h.1) (Or.inl ⟨by kernel_rfl, ?_⟩) hS ?_
            · intro w hSw; (try dsimp only at hSw); go_simp
            simp only [Act.put, List.getElem_toArray, List.getElem_cons_zero, List.getElem_cons_succ, List.setIfInBounds_toArray, List.set_cons_zero, List.set_cons_succ]
            refine wpAnyH_ready (rs := [4, 9]) (by as_aux_lemma => kernel_rfl) (by simp) ?_
            refine AllReadyH.cons rfl (fun K hK => ?_) (AllReadyH.cons rfl (fun K hK => ?_) AllReadyH.nil)
            · skip
              have k1 := cell_later hb2 dB
              go_simp
              refine hK.out _ _ (trivial) (fun hS2 => ?_)
              clear hK K hS
              have hS := hS2
              clear hS2
              (try simp only [Act.put, List.getElem_toArray, List.getElem_cons_zero, List.getElem_cons_succ, List.setIfInBounds_toArray, List.set_cons_zero, List.set_cons_succ])
              clear k1
              refine wpAnyH_ready (rs := [9]) (by as_aux_lemma => kernel_rfl) (by simp) ?_
              refine AllReadyH.cons rfl (fun K hK => ?_) AllReadyH.nil
              rw [if_pos (by rfl)]
              go_simp
              obtain ⟨W3, hW⟩ : ∃ V, V = W2.alloc (.cells #[.slice a1 m e1, .slice none 0 0] 91) := ⟨_, rfl⟩
              rw [← hW]
              have hb3 : Below D.heap.size D W3 := by rw [hW]; exact hb2.alloc hb2.size _
              have hg3 : W2.grownBy W3 none := by rw [hW]; exact World.grownBy_alloc _ _ none
              have oI3 := oI2.kept hg3 (fun _ _ e => nomatch e)
              have hnw : Blk W3 W2.heap.size #[.slice a1 m e1, .slice none 0 0] 91 := by rw [hW]; exact Blk.new _ _ _
              clear hW
              refine hK.out _ _ (trivial) (fun hS2 => ?_)
              clear hK K hS
              have hS := hS2
              clear hS2
              (try simp only [Act.put, List.getElem_toArray, List.getElem_cons_zero, List.getElem_cons_succ, List.setIfInBounds_toArray, List.set_cons_zero, List.set_cons_succ])
              refine wpAnyH_ready (rs := [10]) (by as_aux_lemma => kernel_rfl) (by simp) ?_
              refine AllReadyH.cons rfl (fun K hK => ?_) AllReadyH.nil
              rw [if_pos (by rfl)]
              have hrw := RowN.below (tabOk false) HROW.out hb3
              obtain ⟨us, hus⟩ : ∃ us : List Su, W3.ownsRow lo 91 2 (.slice va2 n2 cva2) n2 (us.flatMap suE) := by obtain ⟨us, q1, -⟩ := hrw; exact ⟨us, q1.1.2⟩
              refine wp_appSt _ _ rfl lo _ n2 (us.flatMap suE) rfl hus W2.heap.size 1 (.slice a1 m e1) (.slice none 0 0) rfl rfl rfl (by simpa using hnw.cell 0) (by simpa using hnw.cell 1) (by omega) (by have := hb3.size; omega) ?_
              intro y3 W4 ho3 hg4
              have oI9 : Own .i64 2 W3 D.heap.size (.slice a1 m e1) xs.length xs := by rw [hrp.1]; exact oI3
              have hsn := tab_snoc (az := []) hrw oI9 (OwnR.nil _ _ _ _ _) hus ho3 hg4 hlD
              obtain ⟨a3, e3, rfl, -, -⟩ := RowN.shape suE_len hsn
              have bk := Blk.kept (Blk.of HBB.out hb3) hg4 (Blk.not_row (Blk.of HBB.out hb3) (by decide) hus)
              have hb4 : Below base D W4 := (hb3.mono HBD.out).grown hg4 (by have := hb3.size; have := HBD.out; omega) (fun j hj => by have := (World.ownsRow.lt hus j hj).1; omega)
              have x1 := bk.cell 1
              have xf := bk.frozen 1
              simp at x1
              refine hK.out _ _ (trivial) (fun hS2 => ?_)
              clear hK K hS
              have hS := hS2
              clear hS2
              (try simp only [Act.put, List.getElem_toArray, List.getElem_cons_zero, List.getElem_cons_succ, List.setIfInBounds_toArray, List.set_cons_zero, List.set_cons_succ])
              refine wpAnyH_take (i := 11) (v := (.pointer (some ⟨B, 0, none⟩))) rfl (by as_aux_lemma => kernel_rfl) (by as_aux_lemma => kernel_rfl) (by as_aux_lemma => kernel_rfl) (fun _ _ _ h => nomatch h.1) (Or.inl ⟨by kernel_rfl, ?_⟩) hS ?_
              · intro w hSw; (try dsimp only at hSw); go_simp
              simp only [Act.put, List.getElem_toArray, List.getElem_cons_zero, List.getElem_cons_succ, List.setIfInBounds_toArray, List.set_cons_zero, List.set_cons_succ]
              refine wpAnyH_take (i := 12) (v := (.pointer (some ⟨B, 1, none⟩))) rfl (by as_aux_lemma => kernel_rfl) (by as_aux_lemma => kernel_rfl) (by as_aux_lemma => kernel_rfl) (fun _ _ _ h => nomatch h.1) (Or.inl ⟨by kernel_rfl, ?_⟩) hS ?_
              · intro w hSw; (try dsimp only at hSw); go_simp
              simp only [Act.put, List.getElem_toArray, List.getElem_cons_zero, List.getElem_cons_succ, List.setIfInBounds_toArray, List.set_cons_zero, List.set_cons_succ]
              refine wpAnyH_ready (rs := [13]) (by as_aux_lemma => kernel_rfl) (by simp) ?_
              refine AllReadyH.cons rfl (fun K hK => ?_) AllReadyH.nil
              go_simp
              have bk2 := bk.set (i := 1) (.slice a3 (n2 + 1) e3)
              have hgs := set_grown W4 B 1 (.slice a3 (n2 + 1) e3)
              have hbz := hb4.grown hgs (by have := hb4.size; have := HBD.out; omega) (fun j hj => by cases hj; omega)
              refine hK.out _ _ (trivial) (fun hS2 => ?_)
              clear hK K hS
              have hS := hS2
              clear hS2
              (try simp only [Act.put, List.getElem_toArray, List.getElem_cons_zero, List.getElem_cons_succ, List.setIfInBounds_toArray, List.set_cons_zero, List.set_cons_succ])
              refine wpAnyH_done (by kernel_rfl) ?_ _
              refine ⟨rfl, .slice (some ⟨D.heap.size, 0, none⟩) 0 0, .slice a1 m e1, .agg #[.slice a1 m e1, .slice none 0 0], .slice (some ⟨W2.heap.size, 0, none⟩) 1 1, a3, e3, rfl, by simpa using bk2, ?_, HVD.out.trans hbz⟩
              exact RowN.mono (tabOk false) (RowT.other hsn bk (by decide) (by decide) (by decide) hgs) (Nat.le_refl _) hgs.size
            · skip
              rw [if_pos (by rfl)]
              go_simp
              obtain ⟨W3, hW⟩ : ∃ V, V = W2.alloc (.cells #[.slice a1 m e1, .slice none 0 0] 91) := ⟨_, rfl⟩
              rw [← hW]
              have hb3 : Below D.heap.size D W3 := by rw [hW]; exact hb2.alloc hb2.size _
              have hg3 : W2.grownBy W3 none := by rw [hW]; exact World.grownBy_alloc _ _ none
              have oI3 := oI2.kept hg3 (fun _ _ e => nomatch e)
              have hnw : Blk W3 W2.heap.size #[.slice a1 m e1, .slice none 0 0] 91 := by rw [hW]; exact Blk.new _ _ _
              clear hW
              refine hK.out _ _ (trivial) (fun hS2 => ?_)
              clear hK K hS
              have hS := hS2
              clear hS2
              (try simp only [Act.put, List.getElem_toArray, List.getElem_cons_zero, List.getElem_cons_succ, List.setIfInBounds_toArray, List.set_cons_zero, List.set_cons_succ])
              refine wpAnyH_ready (rs := [4]) (by as_aux_lemma => kernel_rfl) (by simp) ?_
              refine AllReadyH.cons rfl (fun K hK => ?_) AllReadyH.nil
              have k1 := cell_later hb3 dB
              go_simp
              refine hK.out _ _ (trivial) (fun hS2 => ?_)
              clear hK K hS
              have hS := hS2
              clear hS2
              (try simp only [Act.put, List.getElem_toArray, List.getElem_cons_zero, List.getElem_cons_succ, List.setIfInBounds_toArray, List.set_cons_zero, List.set_cons_succ])
              clear k1
              refine wpAnyH_ready (rs := [10]) (by as_aux_lemma => kernel_rfl) (by simp) ?_
              refine AllReadyH.cons rfl (fun K hK => ?_) AllReadyH.nil
              rw [if_pos (by rfl)]
              have hrw := RowN.below (tabOk false) HROW.out hb3
              obtain ⟨us, hus⟩ : ∃ us : List Su, W3.ownsRow lo 91 2 (.slice va2 n2 cva2) n2 (us.flatMap suE) := by obtain ⟨us, q1, -⟩ := hrw; exact ⟨us, q1.1.2⟩
              refine wp_appSt _ _ rfl lo _ n2 (us.flatMap suE) rfl hus W2.heap.size 1 (.slice a1 m e1) (.slice none 0 0) rfl rfl rfl (by simpa using hnw.cell 0) (by simpa using hnw.cell 1) (by omega) (by have := hb3.size; omega) ?_
              intro y3 W4 ho3 hg4
              have oI9 : Own .i64 2 W3 D.heap.size (.slice a1 m e1) xs.length xs := by rw [hrp.1]; exact oI3
              have hsn := tab_snoc (az := []) hrw oI9 (OwnR.nil _ _ _ _ _) hus ho3 hg4 hlD
              obtain ⟨a3, e3, rfl, -, -⟩ := RowN.shape suE_len hsn
              have bk := Blk.kept (Blk.of HBB.out hb3) hg4 (Blk.not_row (Blk.of HBB.out hb3) (by decide) hus)
              have hb4 : Below base D W4 := (hb3.mono HBD.out).grown hg4 (by have := hb3.size; have := HBD.out; omega) (fun j hj => by have := (World.ownsRow.lt hus j hj).1; omega)
              have x1 := bk.cell 1
              have xf := bk.frozen 1
              simp at x1
              refine hK.out _ _ (trivial) (fun hS2 => ?_)
              clear hK K hS
              have hS := hS2
              clear hS2
              (try simp only [Act.put, List.getElem_toArray, List.getElem_cons_zero, List.getElem_cons_succ, List.setIfInBounds_toArray, List.set_cons_zero, List.set_cons_succ])
              refine wpAnyH_take (i := 11) (v := (.pointer (some ⟨B, 0, none⟩))) rfl (by as_aux_lemma => kernel_rfl) (by as_aux_lemma => kernel_rfl) (by as_aux_lemma => kernel_rfl) (fun _ _ _ h => nomatch h.1) (Or.inl ⟨by kernel_rfl, ?_⟩) hS ?_
              · intro w hSw; (try dsimp only at hSw); go_simp
              simp only [Act.put, List.getElem_toArray, List.getElem_cons_zero, List.getElem_cons_succ, List.setIfInBounds_toArray, List.set_cons_zero, List.set_cons_succ]
              refine wpAnyH_take (i := 12) (v := (.pointer (some ⟨B, 1, none⟩))) rfl (by as_aux_lemma => kernel_rfl) (by as_aux_lemma => kernel_rfl) (by as_aux_lemma => kernel_rfl) (fun _ _ _ h => nomatch h.1) (Or.inl ⟨by kernel_rfl, ?_⟩) hS ?_
              · intro w hSw; (try dsimp only at hSw); go_simp
              simp only [Act.put, List.getElem_toArray, List.getElem_cons_zero, List.getElem_cons_succ, List.setIfInBounds_toArray, List.set_cons_zero, List.set_cons_succ]
              refine wpAnyH_ready (rs := [13]) (by as_aux_lemma => kernel_rfl) (by simp) ?_
              refine AllReadyH.cons rfl (fun K hK => ?_) AllReadyH.nil
              go_simp
              have bk2 := bk.set (i := 1) (.slice a3 (n2 + 1) e3)
              have hgs := set_grown W4 B 1 (.slice a3 (n2 + 1) e3)
              have hbz := hb4.grown hgs (by have := hb4.size; have := HBD.out; omega) (fun j hj => by cases hj; omega)
              refine hK.out _ _ (trivial) (fun hS2 => ?_)
              clear hK K hS
              have hS := hS2
              clear hS2
              (try simp only [Act.put, List.getElem_toArray, List.getElem_cons_zero, List.getElem_cons_succ, List.setIfInBounds_toArray, List.set_cons_zero, List.set_cons_succ])
              refine wpAnyH_done (by kernel_rfl) ?_ _
              refine ⟨rfl, .slice (some ⟨D.heap.size, 0, none⟩) 0 0, .slice a1 m e1, .agg #[.slice a1 m e1, .slice none 0 0], .slice (some ⟨W2.heap.size, 0, none⟩) 1 1, a3, e3, rfl, by simpa using bk2, ?_, HVD.out.trans hbz⟩
              exact RowN.mono (tabOk false) (RowT.other hsn bk (by decide) (by decide) (by decide) hgs) (Nat.le_refl _) hgs.size
      · rintro a' w5 ⟨z33, z35, z36, z37, a3, e3, rfl, hb5, hr5, hbl5⟩
        have HB5 := hid hb5
        have HR5 := hid hr5
        have HL5 := hid hbl5
        have x1 : w5.cell? ⟨B, 1, none⟩ = some (.slice a3 (n2 + 1) e3) := by have := hb5.cell 1; simpa using this
        clear hb5 hr5 hbl5
        simp only [Act.put, List.getElem_toArray, List.getElem_cons_zero, List.getElem_cons_succ, List.setIfInBounds_toArray, List.set_cons_zero, List.set_cons_succ]
        go_wp2_with fail
        have e1 := HPP.out
        have e2 := HGG.out
        have e3' := HEE.out
        rw [entP, if_neg HN.out] at e1
        rw [entG, if_neg HN.out] at e2
        rw [entS, if_neg HN.out] at e3'
        rw [HLN.out] at e1 e2 e3'
        rw [if_pos hz] at e1 e3'
        rw [decide_eq_true hz] at e2
        refine bodyPost_ret (v := .tuple #[.int .i64 (n2 : Int), .bool true]) (by simp [results, Tryz.results52, go_sem] <;> omega) rfl ⟨by rw [e1, e2]; rw [HN2.out]; rfl, a3, n2 + 1, e3, HB5.out, ?_, HBV.out.trans HL5.out⟩
        rw [e3']
        have := HR5.out
        rw [HT2.out] at this
        exact this
    · have hz' : ¬ z ≤ (n : Int) := hz
      go_wp2_with fail
      go_quiet (fail)
      go_wp2_with fail
      obtain ⟨V, hV⟩ : ∃ V, V = (w.drewN d).drewN nq := ⟨_, rfl⟩
      have hb1 : Below w.heap.size w V := by rw [hV]; exact below_drewN HB1.out nq
      have hVs : w.heap.size ≤ V.heap.size := hb1.size
      have HBK : Hid (Blk V B #[.int .i64 z, .slice va n cva] 30) := hid (Blk.of HK.out hb1)
      have HRW : Hid (RowT false 91 2 99 V lo V.heap.size (.slice va n cva) n ts) := hid (RowN.mono (tabOk false) (RowN.below (tabOk false) HR.out hb1) (Nat.le_refl _) hb1.size)
      have HRD : Hid (Rd .i64 V s m xs) := hid (HRP.out.below hb1)
      have HBV : Hid (Below base w V) := hid (hb1.mono (by omega))
      rw [← hV]
      clear hV hb1 g0 g1 gf1 hrp
      have hVl : lo ≤ V.heap.size := by omega
      refine region_join (fun act a' w' => ∃ z33 z35 z36 z37 a3 e3, a' = (((((((((((((act.put (some 28) (.pointer (some ⟨B, 0, none⟩))).put (some 29) (.pointer (some ⟨B, 0, none⟩))).put (some 30) (.pointer (some ⟨B, 0, none⟩))).put (some 31) (.pointer (some ⟨B, 1, none⟩))).put (some 32) (.slice va n cva)).put (some 33) (z33)).put (some 34) (.slice s m cs)).put (some 35) (z35)).put (some 36) (z36)).put (some 37) (z37)).put (some 38) (.slice a3 (n + 1) e3)).put (some 39) (.pointer (some ⟨B, 0, none⟩))).put (some 40) (.pointer (some ⟨B, 1, none⟩))) ∧ Blk w' B #[.int .i64 z, .slice a3 (n + 1) e3] 30 ∧ RowT false 91 2 99 w' lo w'.heap.size (.slice a3 (n + 1) e3) (n + 1) (ts ++ [(xs, [])]) ∧ Below base V w') ?_ ?_
      · obtain ⟨D, hD⟩ : ∃ D, D = V.drew := ⟨_, rfl⟩
        have hbd : Below V.heap.size V D := by rw [hD]; exact (Below.refl _ _).drew
        have hsd : D.heap.size = V.heap.size := by rw [hD]; rfl
        have HROW : Hid (RowT false 91 2 99 D lo D.heap.size (.slice va n cva) n ts) := by rw [hsd]; exact hid (RowN.below (tabOk false) HRW.out hbd)
        have HBB : Hid (Blk D B #[.int .i64 z, .slice va n cva] 30) := hid (Blk.of HBK.out hbd)
        have HBD : Hid (base ≤ D.heap.size) := by rw [hsd]; exact hid (by omega)
        have HVD : Hid (Below base V D) := hid (hbd.mono (by omega))
        have hrp := HRD.out.below hbd
        have dB : D.cell? ⟨B, 1, none⟩ = some (.slice va n cva) := by have := HBB.out.cell 1; simpa using this
        have hb0 : Below D.heap.size D D := Below.refl _ _
        have hlD : lo ≤ D.heap.size := by omega
        have hBD : B < D.heap.size := HBB.out.lt
        clear hsd hbd
        refine wp_region_held_drew (S := fun _ => True) (by kernel_rfl) trivial (fun hS => ?_)
        rw [← hD]
        clear hD
        refine wpAnyH_take (i := 0) (v := (.pointer (some ⟨B, 0, none⟩))) rfl (by as_aux_lemma => kernel_rfl) (by as_aux_lemma => kernel_rfl) (by as_aux_lemma => kernel_rfl) (fun _ _ _ h => nomatch h.1) (Or.inl ⟨by kernel_rfl, ?_⟩) hS ?_
        · intro w hSw; (try dsimp only at hSw); go_simp
        simp only [Act.put, List.getElem_toArray, List.getElem_cons_zero, List.getElem_cons_succ, List.setIfInBounds_toArray, List.set_cons_zero, List.set_cons_succ]
        refine wpAnyH_take (i := 1) (v := (.pointer (some ⟨B, 0, none⟩))) rfl (by as_aux_lemma => kernel_rfl) (by as_aux_lemma => kernel_rfl) (by as_aux_lemma => kernel_rfl) (fun _ _ _ h => nomatch h.1) (Or.inl ⟨by kernel_rfl, ?_⟩) hS ?_
        · intro w hSw; (try dsimp only at hSw); go_simp
        simp only [Act.put, List.getElem_toArray, List.getElem_cons_zero, List.getElem_cons_succ, List.setIfInBounds_toArray, List.set_cons_zero, List.set_cons_succ]
        refine wpAnyH_take (i := 2) (v := (.pointer (some ⟨B, 0, none⟩))) rfl (by as_aux_lemma => kernel_rfl) (by as_aux_lemma => kernel_rfl) (by as_aux_lemma => kernel_rfl) (fun _ _ _ h => nomatch h.1) (Or.inl ⟨by kernel_rfl, ?_⟩) hS ?_
        · intro w hSw; (try dsimp only at hSw); go_simp
        simp only [Act.put, List.getElem_toArray, List.getElem_cons_zero, List.getElem_cons_succ, List.setIfInBounds_toArray, List.set_cons_zero, List.set_cons_succ]
        refine wpAnyH_take (i := 3) (v := (.pointer (some ⟨B, 1, none⟩))) rfl (by as_aux_lemma => kernel_rfl) (by as_aux_lemma => kernel_rfl) (by as_aux_lemma => kernel_rfl) (fun _ _ _ h => nomatch h.1) (Or.inl ⟨by kernel_rfl, ?_⟩) hS ?_
        · intro w hSw; (try dsimp only at hSw); go_simp
        simp only [Act.put, List.getElem_toArray, List.getElem_cons_zero, List.getElem_cons_succ, List.setIfInBounds_toArray, List.set_cons_zero, List.set_cons_succ]
        refine wpAnyH_take (i := 6) (v := (.slice s m cs)) rfl (by as_aux_lemma => kernel_rfl) (by as_aux_lemma => kernel_rfl) (by as_aux_lemma => kernel_rfl) (fun _ _ _ h => nomatch h.1) (Or.inl ⟨by kernel_rfl, ?_⟩) hS ?_
        · intro w hSw; (try dsimp only at hSw); go_simp
        simp only [Act.put, List.getElem_toArray, List.getElem_cons_zero, List.getElem_cons_succ, List.setIfInBounds_toArray, List.set_cons_zero, List.set_cons_succ]
        refine wpAnyH_ready (rs := [4, 5]) (by as_aux_lemma => kernel_rfl) (by simp) ?_
        refine AllReadyH.cons rfl (fun K hK => ?_) (AllReadyH.cons rfl (fun K hK => ?_) AllReadyH.nil)
        · skip
          have k1 := cell_later hb0 dB
          go_simp
          refine hK.out _ _ (trivial) (fun hS2 => ?_)
          clear hK K hS
          have hS := hS2
          clear hS2
          (try simp only [Act.put, List.getElem_toArray, List.getElem_cons_zero, List.getElem_cons_succ, List.setIfInBounds_toArray, List.set_cons_zero, List.set_cons_succ])
          clear k1
          refine wpAnyH_ready (rs := [5]) (by as_aux_lemma => kernel_rfl) (by simp) ?_
          refine AllReadyH.cons rfl (fun K hK => ?_) AllReadyH.nil
          rw [if_pos (by rfl)]
          go_simp
          obtain ⟨W1, hW⟩ : ∃ V, V = D.alloc (.cells #[] 2) := ⟨_, rfl⟩
          rw [← hW]
          have hb1 : Below D.heap.size D W1 := by rw [hW]; exact hb0.alloc hb0.size _
          have oI1 : Own .i64 2 W1 D.heap.size (.slice (some ⟨D.heap.size, 0, none⟩) 0 0) 0 [] := by rw [hW]; exact own_lit D #[] 0 D.heap.size [] rfl rfl hb0.size (by unfold maxLen; omega)
          clear hW
          refine hK.out _ _ (trivial) (fun hS2 => ?_)
          clear hK K hS
          have hS := hS2
          clear hS2
          (try simp only [Act.put, List.getElem_toArray, List.getElem_cons_zero, List.getElem_cons_succ, List.setIfInBounds_toArray, List.set_cons_zero, List.set_cons_succ])
          refine wpAnyH_ready (rs := [7]) (by as_aux_lemma => kernel_rfl) (by simp) ?_
          refine AllReadyH.cons rfl (fun K hK => ?_) AllReadyH.nil
          rw [if_pos (by rfl)]
          refine wp_append_rd _ _ 83 rfl .i64 D.heap.size 2 iI 8 Tryz.underlying83 hI hI0 hI1 hI2 _ 0 [] rfl oI1 s m cs xs rfl (hrp.below hb1) (by unfold maxLen; omega) (by omega) hb1.size ?_
          intro y1 W2 oI2 hg2
          rw [Nat.zero_add, List.nil_append] at oI2
          obtain ⟨a1, e1, rfl, -, -⟩ := (RowI.of oI2).shape
          have hb2 := hb1.grown hg2 hb1.size (fun j hj => (oI1.lt j hj).1)
          refine hK.out _ _ (trivial) (fun hS2 => ?_)
          clear hK K hS
          have hS := hS2
          clear hS2
          (try simp only [Act.put, List.getElem_toArray, List.getElem_cons_zero, List.getElem_cons_succ, List.setIfInBounds_toArray, List.set_cons_zero, List.set_cons_succ])
          refine wpAnyH_take (i := 8) (v := (.agg #[.slice a1 m e1, .slice none 0 0])) rfl (by as_aux_lemma => kernel_rfl) (by as_aux_lemma => kernel_rfl) (by as_aux_lemma => kernel_rfl) (fun _ _ _ h => nomatch h.1) (Or.inl ⟨by kernel_rfl, ?_⟩) hS ?_
          · intro w hSw; (try dsimp only at hSw); go_simp
          simp only [Act.put, List.getElem_toArray, List.getElem_cons_zero, List.getElem_cons_succ, List.setIfInBounds_toArray, List.set_cons_zero, List.set_cons_succ]
          refine wpAnyH_ready (rs := [9]) (by as_aux_lemma => kernel_rfl) (by simp) ?_
          refine AllReadyH.cons rfl (fun K hK => ?_) AllReadyH.nil
          rw [if_pos (by rfl)]
          go_simp
          obtain ⟨W3, hW⟩ : ∃ V, V = W2.alloc (.cells #[.slice a1 m e1, .slice none 0 0] 91) := ⟨_, rfl⟩
          rw [← hW]
          have hb3 : Below D.heap.size D W3 := by rw [hW]; exact hb2.alloc hb2.size _
          have hg3 : W2.grownBy W3 none := by rw [hW]; exact World.grownBy_alloc _ _ none
          have oI3 := oI2.kept hg3 (fun _ _ e => nomatch e)
          have hnw : Blk W3 W2.heap.size #[.slice a1 m e1, .slice none 0 0] 91 := by rw [hW]; exact Blk.new _ _ _
          clear hW
          refine hK.out _ _ (trivial) (fun hS2 => ?_)
          clear hK K hS
          have hS := hS2
          clear hS2
          (try simp only [Act.put, List.getElem_toArray, List.getElem_cons_zero, List.getElem_cons_succ, List.setIfInBounds_toArray, List.set_cons_zero, List.set_cons_succ])
          refine wpAnyH_ready (rs := [10]) (by as_aux_lemma => kernel_rfl) (by simp) ?_
          refine AllReadyH.cons rfl (fun K hK => ?_) AllReadyH.nil
          rw [if_pos (by rfl)]
          have hrw := RowN.below (tabOk false) HROW.out hb3
          obtain ⟨us, hus⟩ : ∃ us : List Su, W3.ownsRow lo 91 2 (.slice va n cva) n (us.flatMap suE) := by obtain ⟨us, q1, -⟩ := hrw; exact ⟨us, q1.1.2⟩
          refine wp_appSt _ _ rfl lo _ n (us.flatMap suE) rfl hus W2.heap.size 1 (.slice a1 m e1) (.slice none 0 0) rfl rfl rfl (by simpa using hnw.cell 0) (by simpa using hnw.cell 1) (by omega) (by have := hb3.size; omega) ?_
          intro y3 W4 ho3 hg4
          have oI9 : Own .i64 2 W3 D.heap.size (.slice a1 m e1) xs.length xs := by rw [hrp.1]; exact oI3
          have hsn := tab_snoc (az := []) hrw oI9 (OwnR.nil _ _ _ _ _) hus ho3 hg4 hlD
          obtain ⟨a3, e3, rfl, -, -⟩ := RowN.shape suE_len hsn
          have bk := Blk.kept (Blk.of HBB.out hb3) hg4 (Blk.not_row (Blk.of HBB.out hb3) (by decide) hus)
          have hb4 : Below base D W4 := (hb3.mono HBD.out).grown hg4 (by have := hb3.size; have := HBD.out; omega) (fun j hj => by have := (World.ownsRow.lt hus j hj).1; omega)
          have x1 := bk.cell 1
          have xf := bk.frozen 1
          simp at x1
          refine hK.out _ _ (trivial) (fun hS2 => ?_)
          clear hK K hS
          have hS := hS2
          clear hS2
          (try simp only [Act.put, List.getElem_toArray, List.getElem_cons_zero, List.getElem_cons_succ, List.setIfInBounds_toArray, List.set_cons_zero, List.set_cons_succ])
          refine wpAnyH_take (i := 11) (v := (.pointer (some ⟨B, 0, none⟩))) rfl (by as_aux_lemma => kernel_rfl) (by as_aux_lemma => kernel_rfl) (by as_aux_lemma => kernel_rfl) (fun _ _ _ h => nomatch h.1) (Or.inl ⟨by kernel_rfl, ?_⟩) hS ?_
          · intro w hSw; (try dsimp only at hSw); go_simp
          simp only [Act.put, List.getElem_toArray, List.getElem_cons_zero, List.getElem_cons_succ, List.setIfInBounds_toArray, List.set_cons_zero, List.set_cons_succ]
          refine wpAnyH_take (i := 12) (v := (.pointer (some ⟨B, 1, none⟩))) rfl (by as_aux_lemma => kernel_rfl) (by as_aux_lemma => kernel_rfl) (by as_aux_lemma => kernel_rfl) (fun _ _ _ h => nomatch h.1) (Or.inl ⟨by kernel_rfl, ?_⟩) hS ?_
          · intro w hSw; (try dsimp only at hSw); go_simp
          simp only [Act.put, List.getElem_toArray, List.getElem_cons_zero, List.getElem_cons_succ, List.setIfInBounds_toArray, List.set_cons_zero, List.set_cons_succ]
          refine wpAnyH_ready (rs := [13]) (by as_aux_lemma => kernel_rfl) (by simp) ?_
          refine AllReadyH.cons rfl (fun K hK => ?_) AllReadyH.nil
          go_simp
          have bk2 := bk.set (i := 1) (.slice a3 (n + 1) e3)
          have hgs := set_grown W4 B 1 (.slice a3 (n + 1) e3)
          have hbz := hb4.grown hgs (by have := hb4.size; have := HBD.out; omega) (fun j hj => by cases hj; omega)
          refine hK.out _ _ (trivial) (fun hS2 => ?_)
          clear hK K hS
          have hS := hS2
          clear hS2
          (try simp only [Act.put, List.getElem_toArray, List.getElem_cons_zero, List.getElem_cons_succ, List.setIfInBounds_toArray, List.set_cons_zero, List.set_cons_succ])
          refine wpAnyH_done (by kernel_rfl) ?_ _
          refine ⟨rfl, .slice (some ⟨D.heap.size, 0, none⟩) 0 0, .slice a1 m e1, .agg #[.slice a1 m e1, .slice none 0 0], .slice (some ⟨W2.heap.size, 0, none⟩) 1 1, a3, e3, rfl, by simpa using bk2, ?_, HVD.out.trans hbz⟩
          exact RowN.mono (tabOk false) (RowT.other hsn bk (by decide) (by decide) (by decide) hgs) (Nat.le_refl _) hgs.size
        · skip
          rw [if_pos (by rfl)]
          go_simp
          obtain ⟨W1, hW⟩ : ∃ V, V = D.alloc (.cells #[] 2) := ⟨_, rfl⟩
          rw [← hW]
          have hb1 : Below D.heap.size D W1 := by rw [hW]; exact hb0.alloc hb0.size _
          have oI1 : Own .i64 2 W1 D.heap.size (.slice (some ⟨D.heap.size, 0, none⟩) 0 0) 0 [] := by rw [hW]; exact own_lit D #[] 0 D.heap.size [] rfl rfl hb0.size (by unfold maxLen; omega)
          clear hW
          refine hK.out _ _ (trivial) (fun hS2 => ?_)
          clear hK K hS
          have hS := hS2
          clear hS2
          (try simp only [Act.put, List.getElem_toArray, List.getElem_cons_zero, List.getElem_cons_succ, List.setIfInBounds_toArray, List.set_cons_zero, List.set_cons_succ])
          refine wpAnyH_ready (rs := [4, 7]) (by as_aux_lemma => kernel_rfl) (by simp) ?_
          refine AllReadyH.cons rfl (fun K hK => ?_) (AllReadyH.cons rfl (fun K hK => ?_) AllReadyH.nil)
          · skip
            have k1 := cell_later hb1 dB
            go_simp
            refine hK.out _ _ (trivial) (fun hS2 => ?_)
            clear hK K hS
            have hS := hS2
            clear hS2
            (try simp only [Act.put, List.getElem_toArray, List.getElem_cons_zero, List.getElem_cons_succ, List.setIfInBounds_toArray, List.set_cons_zero, List.set_cons_succ])
            clear k1
            refine wpAnyH_ready (rs := [7]) (by as_aux_lemma => kernel_rfl) (by simp) ?_
            refine AllReadyH.cons rfl (fun K hK => ?_) AllReadyH.nil
            rw [if_pos (by rfl)]
            refine wp_append_rd _ _ 83 rfl .i64 D.heap.size 2 iI 8 Tryz.underlying83 hI hI0 hI1 hI2 _ 0 [] rfl oI1 s m cs xs rfl (hrp.below hb1) (by unfold maxLen; omega) (by omega) hb1.size ?_
            intro y1 W2 oI2 hg2
            rw [Nat.zero_add, List.nil_append] at oI2
            obtain ⟨a1, e1, rfl, -, -⟩ := (RowI.of oI2).shape
            have hb2 := hb1.grown hg2 hb1.size (fun j hj => (oI1.lt j hj).1)
            refine hK.out _ _ (trivial) (fun hS2 => ?_)
            clear hK K hS
            have hS := hS2
            clear hS2
            (try simp only [Act.put, List.getElem_toArray, List.getElem_cons_zero, List.getElem_cons_succ, List.setIfInBounds_toArray, List.set_cons_zero, List.set_cons_succ])
            refine wpAnyH_take (i := 8) (v := (.agg #[.slice a1 m e1, .slice none 0 0])) rfl (by as_aux_lemma => kernel_rfl) (by as_aux_lemma => kernel_rfl) (by as_aux_lemma => kernel_rfl) (fun _ _ _ h => nomatch h.1) (Or.inl ⟨by kernel_rfl, ?_⟩) hS ?_
            · intro w hSw; (try dsimp only at hSw); go_simp
            simp only [Act.put, List.getElem_toArray, List.getElem_cons_zero, List.getElem_cons_succ, List.setIfInBounds_toArray, List.set_cons_zero, List.set_cons_succ]
            refine wpAnyH_ready (rs := [9]) (by as_aux_lemma => kernel_rfl) (by simp) ?_
            refine AllReadyH.cons rfl (fun K hK => ?_) AllReadyH.nil
            rw [if_pos (by rfl)]
            go_simp
            obtain ⟨W3, hW⟩ : ∃ V, V = W2.alloc (.cells #[.slice a1 m e1, .slice none 0 0] 91) := ⟨_, rfl⟩
            rw [← hW]
            have hb3 : Below D.heap.size D W3 := by rw [hW]; exact hb2.alloc hb2.size _
            have hg3 : W2.grownBy W3 none := by rw [hW]; exact World.grownBy_alloc _ _ none
            have oI3 := oI2.kept hg3 (fun _ _ e => nomatch e)
            have hnw : Blk W3 W2.heap.size #[.slice a1 m e1, .slice none 0 0] 91 := by rw [hW]; exact Blk.new _ _ _
            clear hW
            refine hK.out _ _ (trivial) (fun hS2 => ?_)
            clear hK K hS
            have hS := hS2
            clear hS2
            (try simp only [Act.put, List.getElem_toArray, List.getElem_cons_zero, List.getElem_cons_succ, List.setIfInBounds_toArray, List.set_cons_zero, List.set_cons_succ])
            refine wpAnyH_ready (rs := [10]) (by as_aux_lemma => kernel_rfl) (by simp) ?_
            refine AllReadyH.cons rfl (fun K hK => ?_) AllReadyH.nil
            rw [if_pos (by rfl)]
            have hrw := RowN.below (tabOk false) HROW.out hb3
            obtain ⟨us, hus⟩ : ∃ us : List Su, W3.ownsRow lo 91 2 (.slice va n cva) n (us.flatMap suE) := by obtain ⟨us, q1, -⟩ := hrw; exact ⟨us, q1.1.2⟩
            refine wp_appSt _ _ rfl lo _ n (us.flatMap suE) rfl hus W2.heap.size 1 (.slice a1 m e1) (.slice none 0 0) rfl rfl rfl (by simpa using hnw.cell 0) (by simpa using hnw.cell 1) (by omega) (by have := hb3.size; omega) ?_
            intro y3 W4 ho3 hg4
            have oI9 : Own .i64 2 W3 D.heap.size (.slice a1 m e1) xs.length xs := by rw [hrp.1]; exact oI3
            have hsn := tab_snoc (az := []) hrw oI9 (OwnR.nil _ _ _ _ _) hus ho3 hg4 hlD
            obtain ⟨a3, e3, rfl, -, -⟩ := RowN.shape suE_len hsn
            have bk := Blk.kept (Blk.of HBB.out hb3) hg4 (Blk.not_row (Blk.of HBB.out hb3) (by decide) hus)
            have hb4 : Below base D W4 := (hb3.mono HBD.out).grown hg4 (by have := hb3.size; have := HBD.out; omega) (fun j hj => by have := (World.ownsRow.lt hus j hj).1; omega)
            have x1 := bk.cell 1
            have xf := bk.frozen 1
            simp at x1
            refine hK.out _ _ (trivial) (fun hS2 => ?_)
            clear hK K hS
            have hS := hS2
            clear hS2
            (try simp only [Act.put, List.getElem_toArray, List.getElem_cons_zero, List.getElem_cons_succ, List.setIfInBounds_toArray, List.set_cons_zero, List.set_cons_succ])
            refine wpAnyH_take (i := 11) (v := (.pointer (some ⟨B, 0, none⟩))) rfl (by as_aux_lemma => kernel_rfl) (by as_aux_lemma => kernel_rfl) (by as_aux_lemma => kernel_rfl) (fun _ _ _ h => nomatch h.1) (Or.inl ⟨by kernel_rfl, ?_⟩) hS ?_
            · intro w hSw; (try dsimp only at hSw); go_simp
            simp only [Act.put, List.getElem_toArray, List.getElem_cons_zero, List.getElem_cons_succ, List.setIfInBounds_toArray, List.set_cons_zero, List.set_cons_succ]
            refine wpAnyH_take (i := 12) (v := (.pointer (some ⟨B, 1, none⟩))) rfl (by as_aux_lemma => kernel_rfl) (by as_aux_lemma => kernel_rfl) (by as_aux_lemma => kernel_rfl) (fun _ _ _ h => nomatch h.1) (Or.inl ⟨by kernel_rfl, ?_⟩) hS ?_
            · intro w hSw; (try dsimp only at hSw); go_simp
            simp only [Act.put, List.getElem_toArray, List.getElem_cons_zero, List.getElem_cons_succ, List.setIfInBounds_toArray, List.set_cons_zero, List.set_cons_succ]
            refine wpAnyH_ready (rs := [13]) (by as_aux_lemma => kernel_rfl) (by simp) ?_
            refine AllReadyH.cons rfl (fun K hK => ?_) AllReadyH.nil
            go_simp
            have bk2 := bk.set (i := 1) (.slice a3 (n + 1) e3)
            have hgs := set_grown W4 B 1 (.slice a3 (n + 1) e3)
            have hbz := hb4.grown hgs (by have := hb4.size; have := HBD.out; omega) (fun j hj => by cases hj; omega)
            refine hK.out _ _ (trivial) (fun hS2 => ?_)
            clear hK K hS
            have hS := hS2
            clear hS2
            (try simp only [Act.put, List.getElem_toArray, List.getElem_cons_zero, List.getElem_cons_succ, List.setIfInBounds_toArray, List.set_cons_zero, List.set_cons_succ])
            refine wpAnyH_done (by kernel_rfl) ?_ _
            refine ⟨rfl, .slice (some ⟨D.heap.size, 0, none⟩) 0 0, .slice a1 m e1, .agg #[.slice a1 m e1, .slice none 0 0], .slice (some ⟨W2.heap.size, 0, none⟩) 1 1, a3, e3, rfl, by simpa using bk2, ?_, HVD.out.trans hbz⟩
            exact RowN.mono (tabOk false) (RowT.other hsn bk (by decide) (by decide) (by decide) hgs) (Nat.le_refl _) hgs.size
          · skip
            rw [if_pos (by rfl)]
            refine wp_append_rd _ _ 83 rfl .i64 D.heap.size 2 iI 8 Tryz.underlying83 hI hI0 hI1 hI2 _ 0 [] rfl oI1 s m cs xs rfl (hrp.below hb1) (by unfold maxLen; omega) (by omega) hb1.size ?_
            intro y1 W2 oI2 hg2
            rw [Nat.zero_add, List.nil_append] at oI2
            obtain ⟨a1, e1, rfl, -, -⟩ := (RowI.of oI2).shape
            have hb2 := hb1.grown hg2 hb1.size (fun j hj => (oI1.lt j hj).1)
            refine hK.out _ _ (trivial) (fun hS2 => ?_)
            clear hK K hS
            have hS := hS2
            clear hS2
            (try simp only [Act.put, List.getElem_toArray, List.getElem_cons_zero, List.getElem_cons_succ, List.setIfInBounds_toArray, List.set_cons_zero, List.set_cons_succ])
            refine wpAnyH_take (i := 8) (v := (.agg #[.slice a1 m e1, .slice none 0 0])) rfl (by as_aux_lemma => kernel_rfl) (by as_aux_lemma => kernel_rfl) (by as_aux_lemma => kernel_rfl) (fun _ _ _ h => nomatch h.1) (Or.inl ⟨by kernel_rfl, ?_⟩) hS ?_
            · intro w hSw; (try dsimp only at hSw); go_simp
            simp only [Act.put, List.getElem_toArray, List.getElem_cons_zero, List.getElem_cons_succ, List.setIfInBounds_toArray, List.set_cons_zero, List.set_cons_succ]
            refine wpAnyH_ready (rs := [4, 9]) (by as_aux_lemma => kernel_rfl) (by simp) ?_
            refine AllReadyH.cons rfl (fun K hK => ?_) (AllReadyH.cons rfl (fun K hK => ?_) AllReadyH.nil)
            · skip
              have k1 := cell_later hb2 dB
              go_simp
              refine hK.out _ _ (trivial) (fun hS2 => ?_)
              clear hK K hS
              have hS := hS2
              clear hS2
              (try simp only [Act.put, List.getElem_toArray, List.getElem_cons_zero, List.getElem_cons_succ, List.setIfInBounds_toArray, List.set_cons_zero, List.set_cons_succ])
              clear k1
              refine wpAnyH_ready (rs := [9]) (by as_aux_lemma => kernel_rfl) (by simp) ?_
              refine AllReadyH.cons rfl (fun K hK => ?_) AllReadyH.nil
              rw [if_pos (by rfl)]
              go_simp
              obtain ⟨W3, hW⟩ : ∃ V, V = W2.alloc (.cells #[.slice a1 m e1, .slice none 0 0] 91) := ⟨_, rfl⟩
              rw [← hW]
              have hb3 : Below D.heap.size D W3 := by rw [hW]; exact hb2.alloc hb2.size _
              have hg3 : W2.grownBy W3 none := by rw [hW]; exact World.grownBy_alloc _ _ none
              have oI3 := oI2.kept hg3 (fun _ _ e => nomatch e)
              have hnw : Blk W3 W2.heap.size #[.slice a1 m e1, .slice none 0 0] 91 := by rw [hW]; exact Blk.new _ _ _
              clear hW
              refine hK.out _ _ (trivial) (fun hS2 => ?_)
              clear hK K hS
              have hS := hS2
              clear hS2
              (try simp only [Act.put, List.getElem_toArray, List.getElem_cons_zero, List.getElem_cons_succ, List.setIfInBounds_toArray, List.set_cons_zero, List.set_cons_succ])
              refine wpAnyH_ready (rs := [10]) (by as_aux_lemma => kernel_rfl) (by simp) ?_
              refine AllReadyH.cons rfl (fun K hK => ?_) AllReadyH.nil
              rw [if_pos (by rfl)]
              have hrw := RowN.below (tabOk false) HROW.out hb3
              obtain ⟨us, hus⟩ : ∃ us : List Su, W3.ownsRow lo 91 2 (.slice va n cva) n (us.flatMap suE) := by obtain ⟨us, q1, -⟩ := hrw; exact ⟨us, q1.1.2⟩
              refine wp_appSt _ _ rfl lo _ n (us.flatMap suE) rfl hus W2.heap.size 1 (.slice a1 m e1) (.slice none 0 0) rfl rfl rfl (by simpa using hnw.cell 0) (by simpa using hnw.cell 1) (by omega) (by have := hb3.size; omega) ?_
              intro y3 W4 ho3 hg4
              have oI9 : Own .i64 2 W3 D.heap.size (.slice a1 m e1) xs.length xs := by rw [hrp.1]; exact oI3
              have hsn := tab_snoc (az := []) hrw oI9 (OwnR.nil _ _ _ _ _) hus ho3 hg4 hlD
              obtain ⟨a3, e3, rfl, -, -⟩ := RowN.shape suE_len hsn
              have bk := Blk.kept (Blk.of HBB.out hb3) hg4 (Blk.not_row (Blk.of HBB.out hb3) (by decide) hus)
              have hb4 : Below base D W4 := (hb3.mono HBD.out).grown hg4 (by have := hb3.size; have := HBD.out; omega) (fun j hj => by have := (World.ownsRow.lt hus j hj).1; omega)
              have x1 := bk.cell 1
              have xf := bk.frozen 1
              simp at x1
              refine hK.out _ _ (trivial) (fun hS2 => ?_)
              clear hK K hS
              have hS := hS2
              clear hS2
              (try simp only [Act.put, List.getElem_toArray, List.getElem_cons_zero, List.getElem_cons_succ, List.setIfInBounds_toArray, List.set_cons_zero, List.set_cons_succ])
              refine wpAnyH_take (i := 11) (v := (.pointer (some ⟨B, 0, none⟩))) rfl (by as_aux_lemma => kernel_rfl) (by as_aux_lemma => kernel_rfl) (by as_aux_lemma => kernel_rfl) (fun _ _ _ h => nomatch h.1) (Or.inl ⟨by kernel_rfl, ?_⟩) hS ?_
              · intro w hSw; (try dsimp only at hSw); go_simp
              simp only [Act.put, List.getElem_toArray, List.getElem_cons_zero, List.getElem_cons_succ, List.setIfInBounds_toArray, List.set_cons_zero, List.set_cons_succ]
              refine wpAnyH_take (i := 12) (v := (.pointer (some ⟨B, 1, none⟩))) rfl (by as_aux_lemma => kernel_rfl) (by as_aux_lemma => kernel_rfl) (by as_aux_lemma => kernel_rfl) (fun _ _ _ h => nomatch h.1) (Or.inl ⟨by kernel_rfl, ?_⟩) hS ?_
              · intro w hSw; (try dsimp only at hSw); go_simp
              simp only [Act.put, List.getElem_toArray, List.getElem_cons_zero, List.getElem_cons_succ, List.setIfInBounds_toArray, List.set_cons_zero, List.set_cons_succ]
              refine wpAnyH_ready (rs := [13]) (by as_aux_lemma => kernel_rfl) (by simp) ?_
              refine AllReadyH.cons rfl (fun K hK => ?_) AllReadyH.nil
              go_simp
              have bk2 := bk.set (i := 1) (.slice a3 (n + 1) e3)
              have hgs := set_grown W4 B 1 (.slice a3 (n + 1) e3)
              have hbz := hb4.grown hgs (by have := hb4.size; have := HBD.out; omega) (fun j hj => by cases hj; omega)
              refine hK.out _ _ (trivial) (fun hS2 => ?_)
              clear hK K hS
              have hS := hS2
              clear hS2
              (try simp only [Act.put, List.getElem_toArray, List.getElem_cons_zero, List.getElem_cons_succ, List.setIfInBounds_toArray, List.set_cons_zero, List.set_cons_succ])
              refine wpAnyH_done (by kernel_rfl) ?_ _
              refine ⟨rfl, .slice (some ⟨D.heap.size, 0, none⟩) 0 0, .slice a1 m e1, .agg #[.slice a1 m e1, .slice none 0 0], .slice (some ⟨W2.heap.size, 0, none⟩) 1 1, a3, e3, rfl, by simpa using bk2, ?_, HVD.out.trans hbz⟩
              exact RowN.mono (tabOk false) (RowT.other hsn bk (by decide) (by decide) (by decide) hgs) (Nat.le_refl _) hgs.size
            · skip
              rw [if_pos (by rfl)]
              go_simp
              obtain ⟨W3, hW⟩ : ∃ V, V = W2.alloc (.cells #[.slice a1 m e1, .slice none 0 0] 91) := ⟨_, rfl⟩
              rw [← hW]
              have hb3 : Below D.heap.size D W3 := by rw [hW]; exact hb2.alloc hb2.size _
              have hg3 : W2.grownBy W3 none := by rw [hW]; exact World.grownBy_alloc _ _ none
              have oI3 := oI2.kept hg3 (fun _ _ e => nomatch e)
              have hnw : Blk W3 W2.heap.size #[.slice a1 m e1, .slice none 0 0] 91 := by rw [hW]; exact Blk.new _ _ _
              clear hW
              refine hK.out _ _ (trivial) (fun hS2 => ?_)
              clear hK K hS
              have hS := hS2
              clear hS2
              (try simp only [Act.put, List.getElem_toArray, List.getElem_cons_zero, List.getElem_cons_succ, List.setIfInBounds_toArray, List.set_cons_zero, List.set_cons_succ])
              refine wpAnyH_ready (rs := [4]) (by as_aux_lemma => kernel_rfl) (by simp) ?_
              refine AllReadyH.cons rfl (fun K hK => ?_) AllReadyH.nil
              have k1 := cell_later hb3 dB
              go_simp
              refine hK.out _ _ (trivial) (fun hS2 => ?_)
              clear hK K hS
              have hS := hS2
              clear hS2
              (try simp only [Act.put, List.getElem_toArray, List.getElem_cons_zero, List.getElem_cons_succ, List.setIfInBounds_toArray, List.set_cons_zero, List.set_cons_succ])
              clear k1
              refine wpAnyH_ready (rs := [10]) (by as_aux_lemma => kernel_rfl) (by simp) ?_
              refine AllReadyH.cons rfl (fun K hK => ?_) AllReadyH.nil
              rw [if_pos (by rfl)]
              have hrw := RowN.below (tabOk false) HROW.out hb3
              obtain ⟨us, hus⟩ : ∃ us : List Su, W3.ownsRow lo 91 2 (.slice va n cva) n (us.flatMap suE) := by obtain ⟨us, q1, -⟩ := hrw; exact ⟨us, q1.1.2⟩
              refine wp_appSt _ _ rfl lo _ n (us.flatMap suE) rfl hus W2.heap.size 1 (.slice a1 m e1) (.slice none 0 0) rfl rfl rfl (by simpa using hnw.cell 0) (by simpa using hnw.cell 1) (by omega) (by have := hb3.size; omega) ?_
              intro y3 W4 ho3 hg4
              have oI9 : Own .i64 2 W3 D.heap.size (.slice a1 m e1) xs.length xs := by rw [hrp.1]; exact oI3
              have hsn := tab_snoc (az := []) hrw oI9 (OwnR.nil _ _ _ _ _) hus ho3 hg4 hlD
              obtain ⟨a3, e3, rfl, -, -⟩ := RowN.shape suE_len hsn
              have bk := Blk.kept (Blk.of HBB.out hb3) hg4 (Blk.not_row (Blk.of HBB.out hb3) (by decide) hus)
              have hb4 : Below base D W4 := (hb3.mono HBD.out).grown hg4 (by have := hb3.size; have := HBD.out; omega) (fun j hj => by have := (World.ownsRow.lt hus j hj).1; omega)
              have x1 := bk.cell 1
              have xf := bk.frozen 1
              simp at x1
              refine hK.out _ _ (trivial) (fun hS2 => ?_)
              clear hK K hS
              have hS := hS2
              clear hS2
              (try simp only [Act.put, List.getElem_toArray, List.getElem_cons_zero, List.getElem_cons_succ, List.setIfInBounds_toArray, List.set_cons_zero, List.set_cons_succ])
              refine wpAnyH_take (i := 11) (v := (.pointer (some ⟨B, 0, none⟩))) rfl (by as_aux_lemma => kernel_rfl) (by as_aux_lemma => kernel_rfl) (by as_aux_lemma => kernel_rfl) (fun _ _ _ h => nomatch h.1) (Or.inl ⟨by kernel_rfl, ?_⟩) hS ?_
              · intro w hSw; (try dsimp only at hSw); go_simp
              simp only [Act.put, List.getElem_toArray, List.getElem_cons_zero, List.getElem_cons_succ, List.setIfInBounds_toArray, List.set_cons_zero, List.set_cons_succ]
              refine wpAnyH_take (i := 12) (v := (.pointer (some ⟨B, 1, none⟩))) rfl (by as_aux_lemma => kernel_rfl) (by as_aux_lemma => kernel_rfl) (by as_aux_lemma => kernel_rfl) (fun _ _ _ h => nomatch h.1) (Or.inl ⟨by kernel_rfl, ?_⟩) hS ?_
              · intro w hSw; (try dsimp only at hSw); go_simp
              simp only [Act.put, List.getElem_toArray, List.getElem_cons_zero, List.getElem_cons_succ, List.setIfInBounds_toArray, List.set_cons_zero, List.set_cons_succ]
              refine wpAnyH_ready (rs := [13]) (by as_aux_lemma => kernel_rfl) (by simp) ?_
              refine AllReadyH.cons rfl (fun K hK => ?_) AllReadyH.nil
              go_simp
              have bk2 := bk.set (i := 1) (.slice a3 (n + 1) e3)
              have hgs := set_grown W4 B 1 (.slice a3 (n + 1) e3)
              have hbz := hb4.grown hgs (by have := hb4.size; have := HBD.out; omega) (fun j hj => by cases hj; omega)
              refine hK.out _ _ (trivial) (fun hS2 => ?_)
              clear hK K hS
              have hS := hS2
              clear hS2
              (try simp only [Act.put, List.getElem_toArray, List.getElem_cons_zero, List.getElem_cons_succ, List.setIfInBounds_toArray, List.set_cons_zero, List.set_cons_succ])
              refine wpAnyH_done (by kernel_rfl) ?_ _
              refine ⟨rfl, .slice (some ⟨D.heap.size, 0, none⟩) 0 0, .slice a1 m e1, .agg #[.slice a1 m e1, .slice none 0 0], .slice (some ⟨W2.heap.size, 0, none⟩) 1 1, a3, e3, rfl, by simpa using bk2, ?_, HVD.out.trans hbz⟩
              exact RowN.mono (tabOk false) (RowT.other hsn bk (by decide) (by decide) (by decide) hgs) (Nat.le_refl _) hgs.size
      · rintro a' w5 ⟨z33, z35, z36, z37, a3, e3, rfl, hb5, hr5, hbl5⟩
        have HB5 := hid hb5
        have HR5 := hid hr5
        have HL5 := hid hbl5
        have x1 : w5.cell? ⟨B, 1, none⟩ = some (.slice a3 (n + 1) e3) := by have := hb5.cell 1; simpa using this
        clear hb5 hr5 hbl5
        simp only [Act.put, List.getElem_toArray, List.getElem_cons_zero, List.getElem_cons_succ, List.setIfInBounds_toArray, List.set_cons_zero, List.set_cons_succ]
        go_wp2_with fail
        have e1 := HPP.out
        have e2 := HGG.out
        have e3' := HEE.out
        rw [entP, if_neg HN.out] at e1
        rw [entG, if_neg HN.out] at e2
        rw [entS, if_neg HN.out] at e3'
        rw [HLN.out] at e1 e2 e3'
        rw [if_neg (show ¬ z ≤ (n : Int) by omega)] at e1 e3'
        rw [decide_eq_false (show ¬ z ≤ (n : Int) by omega)] at e2
        refine bodyPost_ret (v := .tuple #[.int .i64 (n : Int), .bool false]) (by simp [results, Tryz.results52, go_sem] <;> omega) rfl ⟨by rw [e1, e2], a3, n + 1, e3, HB5.out, ?_, HBV.out.trans HL5.out⟩
        rw [e3']
        exact HR5.out
  · rw [ht]
    have hin : xs ∈ ts.map (·.1) := List.mem_of_getElem? hj
    have e1 := HPP.out
    have e2 := HGG.out
    have e3 := HEE.out
    rw [entP, if_pos hin, ht] at e1
    rw [entG, if_pos hin] at e2
    rw [entS, if_pos hin] at e3
    have HE3 := hid e3
    have HR := hid hrow
    have HK := hid hbk
    have hj0 : (0 : Int) ≤ (j : Int) := by omega
    clear e3 hin hj ht hrow hbk
    subst e1 e2
    go_wp2
    refine bodyPost_ret (v := .tuple #[.int .i64 (j : Int), .bool false]) (by simp [results, Tryz.results52, go_sem]) rfl ⟨rfl, va, n, cva, Blk.of HK.out HB1.out, ?_, HB1.out.mono (by omega)⟩
    rw [HE3.out]
    exact RowN.mono (tabOk false) (RowN.below (tabOk false) HR.out HB1.out) (Nat.le_refl _) HB1.out.size
end Go.Proofs.YtlemdjgpkmjihaaGreat
