/-
  MakeW, Draw12 in one text.
-/
import Derived.Test.YtckkkhabjfbngaaAppend
import Derived.Test.YtckkkhabjfbngaaDrawsB
namespace Go.Proofs.Ytckkkhabjfbngaa
open Go.RowKit
set_option linter.unusedVariables false

theorem wp_make_rd {P : Program} {w : World} {o : Oper} {a : Act} {K : Act → World → Prop} {Q : Exit → Act → World → Prop} (l c : Operand) (t : TypeId) (hop : o.op = Op.makeSlice t l c)
    (k : IntKind) (base : Nat) (e : TypeId) (i : TypeInfo) (h1 : P.underlying t = some (.slice e)) (h2 : P.info? e = some i) (h3 : i.zero = some (.int k 0)) (h4 : i.size = 1)
    (n : Nat) (hl : a.eval l = .int .i64 n) (hc : a.eval c = .int .i64 n) (b2 : i.bytes * n ≤ 281474976710656) (b3 : n ≤ maxLen) (b4 : base ≤ w.heap.size)
    (hK : ∀ w', Own k e w' base (.slice (some ⟨w.heap.size, 0, none⟩) n n) n (List.replicate n 0) → w.grownBy w' none → w'.heap.size = w.heap.size + 1 → K (a.put o.dst (.slice (some ⟨w.heap.size, 0, none⟩) n n)) w') : o.wp P a w K Q := by
  have h63' : (n : Int) ≤ 9223372036854775807 := by
    have h := b3
    simp [maxLen] at h
    omega
  have hb' : (i.bytes : Int) * (n : Int) ≤ 281474976710656 := by
    have h : ((i.bytes * n : Nat) : Int) ≤ 281474976710656 := by omega
    rwa [Int.natCast_mul] at h
  have hrun := run_make (P := P) w t e i (.int k 0) h1 h2 h3 .i64 .i64 n n (by omega) (Int.le_refl _) hb' h63'
  have hown := World.ownsRow_lit (e := e) (size := 1) w (madeCells (Value.int k 0).cells (n * 1)) n b4 b3 (size_madeCells _ _)
  simp only [Int.toNat_natCast, h4] at hrun
  unfold Oper.wp
  simp only [execOp, hop, hl, hc]
  simp [hrun, Result.andThen]
  refine hK _ ?_ (World.grownBy_alloc w _ none) (by simp)
  unfold Own
  rw [List.map_replicate, ← toList_madeCells_one]
  simp only [Nat.mul_one] at hown ⊢
  exact hown

theorem wp_copy_rd {P : Program} {w : World} {o : Oper} {a : Act} {K : Act → World → Prop} {Q : Exit → Act → World → Prop} (d s : Operand) (dT sT : TypeId)
    (hop : o.op = .call { callee := .builtin .copy, args := #[d, s], argTypes := #[dT, sT] })
    (k : IntKind) (e : TypeId) (hu : P.underlying dT = some (.slice e)) (hsz : (P.info? e).map (·.size) = some 1)
    (sp : Option Addr) (n sCap base g cap : Nat) (hd : a.eval d = .slice (some ⟨g, 0, none⟩) n cap) (hs : a.eval s = .slice sp n sCap)
    (cur ys : List Int) (hown : Own k e w base (.slice (some ⟨g, 0, none⟩) n cap) n cur) (hr : Rd k w sp n ys)
    (h : ∀ w', Own k e w' base (.slice (some ⟨g, 0, none⟩) n cap) n ys → w.grownBy w' (some g) → K (a.put o.dst (.int .i64 n)) w') : o.wp P a w K Q := by
  have hgo : goInt (n : Int) = .int .i64 n := rfl
  by_cases h0 : n = 0
  · subst h0
    obtain rfl : ys = [] := List.eq_nil_of_length_eq_zero hr.1
    obtain rfl : cur = [] := List.eq_nil_of_length_eq_zero hown.len
    have hrun := run_copy_none (P := P) w dT sT o.type e (some ⟨g, 0, none⟩) sp 0 cap 0 sCap hu hsz (by simp)
    unfold Oper.wp
    simp [execOp, hop, resolve, invoke, builtin, hd, hs, hrun, Result.andThen]
    exact h w hown (World.grownBy.refl _ _)
  · obtain ⟨b, o2, rfl, _⟩ := hr.at (show 0 < n by omega)
    have hlen := hown.len
    rcases hown.2 with ⟨h', _⟩ | ⟨g', cap', arr, h', hbg, hg, h4, h5, h6, htake⟩
    · simp at h'
    · simp only [Value.slice.injEq, Option.some.injEq, Addr.mk.injEq, and_true, true_and] at h'
      obtain ⟨rfl, rfl⟩ := h'
      have hl2 : (ys.map (Value.int k)).length = n := by simpa using hr.1
      rw [Nat.mul_one] at h6 htake
      have hrun := run_copy_row (P := P) w dT sT o.type e g 0 n cap ⟨b, o2, none⟩ n sCap arr e (ys.map (Value.int k)) hu hsz hg (by rw [hl2]; simp) (rd_cells hr) (by rw [hl2]; omega) (ints_one k ys)
      unfold Oper.wp
      simp only [hl2, List.take_zero, List.nil_append, Nat.zero_add, hgo] at hrun
      simp [execOp, hop, resolve, invoke, builtin, hd, hs, hrun, Result.andThen]
      refine h _ ?_ ⟨rfl, rfl, rfl, by simp [World.setRow], fun i _ hi => setRow_other w g i _ (fun e => hi (by simp [e]))⟩
      refine ⟨by simpa using hr.1, .inr ⟨g, cap, _, rfl, hbg, setRow_heap w g arr _ e _ hg, h4, h5, ?_, ?_⟩⟩
      · simp [hr.1]; omega
      · simp [hr.1]
end Go.Proofs.Ytckkkhabjfbngaa

namespace Go.Proofs.Ytckkkhabjfbngaa
open Go.RowKit Go.ChangeMaps Go.MapKept
set_option linter.unusedVariables false
set_option linter.unusedSimpArgs false

theorem rd_kept {k : IntKind} {w w' : World} {a : Option Addr} {n : Nat} {xs : List Int} {row : Option Nat} (h : Rd k w a n xs) (hg : w.grownBy w' row) (hne : ∀ ad, a = some ad → some ad.block ≠ row) : Rd k w' a n xs := by
  refine ⟨h.1, ?_⟩
  rcases h.2 with h0 | ⟨b, off, rfl, hc⟩
  · exact .inl h0
  · refine .inr ⟨b, off, rfl, fun j hj => ?_⟩
    have hx := hc j hj
    rw [World.cell?_of_block (hg.block b (block_lt_of_cell hx) (hne _ rfl))]
    exact hx

def SmallB (bs : List Bk) : Prop := (bs.length : Int) + byB bs ≤ 1000

theorem small_okC {U : Nat} {z : Int} {bs : List Bk} (h : OkC U z bs) : SmallB bs ∧ bs.length ≤ 6 ∧ byB bs ≤ 384 := by
  have h1 := okC_byB h
  have h2 := h.len
  have h3 := h.z2
  unfold SmallB
  omega

theorem small_snoc {U : Nat} {z : Int} {bs : List Bk} (h : OkC U z bs) (q : Int) (r : Nat) (hr : r ≤ 70) : SmallB (bs ++ [(q, List.replicate r 0)]) := by
  have h1 := small_okC h
  unfold SmallB
  rw [byB_append, List.length_append]
  have e : byB [(q, List.replicate r (0 : Int))] = r := by simp [byB]
  rw [e]
  simp
  omega

theorem bytes_snoc {bs : List Bk} (h : BytesB bs) (q : Int) (r : Nat) : BytesB (bs ++ [(q, List.replicate r 0)]) := by
  intro b hb
  rcases List.mem_append.1 hb with h' | h'
  · exact h b h'
  · rw [List.mem_singleton] at h'
    subst h'
    intro x hx
    have := List.eq_of_mem_replicate hx
    subst this
    omega

set_option maxRecDepth 20000 in
set_option maxHeartbeats 6400000 in
theorem l3Bent_any (B b T fb lo hi : Nat) (p : Option Addr) (m cp : Nat) (xs : List Int) (w : World) (hs : Src w B b T) (hT : T ≤ 9000) (hBw : B ≤ w.heap.size) (cf : w.cell? ⟨fb, 0, none⟩ = some (.slice p m cp)) (hrow : RowI .u8 5 w lo hi (.slice p m cp) m xs) (hfb : fb ≠ b) (hlo : b < lo ∨ hi ≤ b) (hhi : hi ≤ w.heap.size) (hm : m ≤ 401) (hbx : Bytes xs) :
    Calls Try.prog 81 #[.pointer (some ⟨b, 0, none⟩), .pointer (some ⟨fb, 0, none⟩)] w fun e w' => ∃ (u z : Int) (v : Value) (bs : List Bk), e = .returned (.agg #[.int .i64 u, .int .i64 z, v]) ∧ (BytesB bs ∧ SmallB bs) ∧ RowB 93 5 w' w.heap.size w'.heap.size v bs.length bs ∧ Src w' B b (T + 16) ∧ w.grownBy w' (some b) := by
  obtain ⟨i0, hi', hz0, hz1, hz2⟩ := info_parts infoB
  obtain ⟨j0, hj, hj0, hj1, hj2⟩ := info_parts info8d
  have hlt := hs.lt
  have hfl := World.block_lt_of_cell? w _ cf
  simp only at hfl
  go_enter Try.func81, Try.ntmps81
  go_wp2_with fail
  have nb := (Below.refl w.heap.size w).alloc (Nat.le_refl _) (.cells #[.int .i64 0, .int .i64 0, .slice none 0 0] 26)
  refine (l3Draw_any B b T fb lo hi p m cp xs _ (hs.alloc _) (by omega) (by simp; omega) (cell_later nb cf) (hrow.below nb) hfb hlo hm hbx).mono ?_
  rintro e w1 ⟨U, z, v1, bs2, rfl, hok, hbb, row1, hs1, hg1⟩
  obtain ⟨a2, c2, rfl, -, -⟩ := row1.shape
  rw [World.size_alloc] at row1
  have rb1 := Blk.kept (Blk.new w #[.int .i64 0, .int .i64 0, .slice none 0 0] 26) hg1 (by simp; omega)
  have gw1 := grownBy_alloc_trans hg1
  have hzz1 := hg1.size
  simp only [World.size_alloc] at hzz1
  obtain ⟨cb, hcb⟩ : ∃ cb, cb = w1.heap.size := ⟨_, rfl⟩
  obtain ⟨W3, hW3⟩ : ∃ W3, W3 = w1.alloc (.cells #[.int .i64 (U : Int), .int .i64 z, .slice a2 bs2.length c2] 26) := ⟨_, rfl⟩
  have cb3 : Blk W3 cb #[.int .i64 (U : Int), .int .i64 z, .slice a2 bs2.length c2] 26 := by rw [hW3, hcb]; exact Blk.new _ _ _
  have rb3 : Blk W3 w.heap.size #[.int .i64 0, .int .i64 0, .slice none 0 0] 26 := by rw [hW3]; exact rb1.alloc _
  have row3 : RowB 93 5 W3 w.heap.size cb (.slice a2 bs2.length c2) bs2.length bs2 := by rw [hW3, hcb]; exact (row1.below ((Below.refl _ _).alloc (Nat.le_refl _) _)).mono (by omega) (Nat.le_refl _)
  have hs3 : Src W3 B b (T + 13) := by rw [hW3]; exact hs1.alloc _
  have gw3 : w.grownBy W3 (some b) := by rw [hW3]; exact grown_trans gw1 (grown_none (World.grownBy_alloc w1 _ none))
  have hcb1 : w.heap.size < cb := by omega
  have CB3 := hid cb3
  have RB3 := hid rb3
  have ROW3 := hid row3
  have HS3 := hid hs3
  have GW3 := hid gw3
  have HOK := hid hok
  have HBB := hid hbb
  clear cb3 rb3 row3 hs3 gw3 hok hbb rb1 gw1 row1 hs1 hs hg1 cf hrow hbx nb
  go_wp2_with fail
  rw [← hW3]
  refine (l1Next_any B b (T + 13) 14 W3 HS3.out (by omega) (by omega)).mono ?_
  rintro e w4 ⟨k, rfl, hk, hs4, hg4⟩
  rw [← hcb]
  have hzz4 := hg4.size
  have hzw3 : W3.heap.size = cb + 1 := by rw [hW3, hcb]; simp
  have CB4 := hid (Blk.kept CB3.out hg4 (by simp; omega))
  have RB4 := hid (Blk.kept RB3.out hg4 (by simp; omega))
  have ROW4 := hid (RowB.chg ROW3.out (Chg.one hg4) (.inr (by omega)))
  have GW4 := hid (grown_trans GW3.out hg4)
  have HS4 := hid hs4
  have hbl6 := small_okC HOK.out
  clear CB3 RB3 ROW3 GW3 HS3 hs4 hg4 hW3 hcb
  have o0 := CB4.out.cell 0
  have o1 := CB4.out.cell 1
  have o2 := CB4.out.cell 2
  simp at o0 o1 o2
  have hcw : cb < w4.heap.size := by omega
  by_cases k0 : k = 0
  · subst k0
    have lit := lit_rd (k := .i64) (e := 2) w4 [0, 64, 65] 3 rfl (by simp [maxLen])
    go_wp2_with fail
    refine (l1Pick_any B b _ w4.heap.size 3 [0, 64, 65] _ (HS4.out.alloc _) (by omega) rfl (by omega) (by omega) (by omega) lit).mono ?_
    rintro e w5 ⟨q, rfl, hq, hs5, hg5⟩
    have hg45 := grownBy_alloc_trans hg5
    have cb5 := Blk.kept CB4.out hg45 (by simp; omega)
    have rb5 := Blk.kept RB4.out hg45 (by simp; omega)
    have row5 := RowB.chg ROW4.out (Chg.one hg45) (.inr (by omega))
    have gw5 := grown_trans GW4.out hg45
    have hz5 := hg45.size
    have y0 := cb5.cell 0
    have yf0 := cb5.frozen 0
    simp at y0
    have hg6 := set_grown w5 cb 0 (.int .i64 q)
    have CBX := hid (show Blk (w5.setCell ⟨cb, 0, none⟩ (.int .i64 q)) cb #[.int .i64 q, .int .i64 z, .slice a2 bs2.length c2] 26 from by simpa using cb5.set (i := 0) (.int .i64 q))
    have RBX := hid (Blk.kept rb5 hg6 (by simp; omega))
    have ROWX := hid ((RowB.apart row5 cb5 (by decide) (by decide) hg6).mono (Nat.le_refl _) (show cb ≤ (w5.setCell ⟨cb, 0, none⟩ (.int .i64 q)).heap.size by have := hg6.size; omega))
    have HSX := hid (hs5.kept hg6 (fun j hj => by cases hj; exact ⟨by omega, by omega⟩))
    have GWX := hid (grown_mix gw5 hg6 (fun j hj => by cases hj; omega))
    have RB5 := hid (show Blk _ _ _ _ from rb5)
    have CB5 := hid (show Blk _ _ _ _ from cb5)
    clear hg6 gw5 row5 rb5 cb5 hg45 hg5 hs5 lit o0 o1 o2 y0 yf0
    have d0 := RB5.out.cell 0
    have d1 := RB5.out.cell 1
    have d2 := RB5.out.cell 2
    have f0 := RB5.out.frozen 0
    have f1 := RB5.out.frozen 1
    have f2 := RB5.out.frozen 2
    have x0 := CB5.out.cell 0
    have x1 := CB5.out.cell 1
    have x2 := CB5.out.cell 2
    have xf0 := CB5.out.frozen 0
    have xf1 := CB5.out.frozen 1
    simp at d0 d1 d2 x0 x1 x2
    have hgs : ∀ x y y2, (w5.setCell ⟨cb, 0, none⟩ (.int .i64 q)).grownBy ((((w5.setCell ⟨cb, 0, none⟩ (.int .i64 q)).setCell ⟨w.heap.size, 0, none⟩ x).setCell ⟨w.heap.size, 1, none⟩ y).setCell ⟨w.heap.size, 2, none⟩ y2) (some w.heap.size) := fun x y y2 => grownT (grownT (set_grown _ _ _ _) (set_grown _ _ _ _)) (set_grown _ _ _ _)
    have HGS := hid hgs
    clear hgs
    go_wp2
    refine bodyPost_ret (v := .agg #[.int .i64 q, .int .i64 z, .slice a2 bs2.length c2]) (by simp [results, Try.results81, go_sem, d0, d1, d2]) rfl ⟨q, z, .slice a2 bs2.length c2, bs2, rfl, ⟨HBB.out, hbl6.1⟩, ?_, ?_, ?_⟩
    · exact (RowB.apart ROWX.out RBX.out (by decide) (by decide) (HGS.out (.int .i64 q) (.int .i64 z) (.slice a2 bs2.length c2))).mono (Nat.le_refl _) (by simp [World.setCell])
    · exact (HSX.out.kept (HGS.out (.int .i64 q) (.int .i64 z) (.slice a2 bs2.length c2)) (fun j hj => by cases hj; exact ⟨hBw, by omega⟩)).more (by omega)
    · exact grown_mix GWX.out (HGS.out (.int .i64 q) (.int .i64 z) (.slice a2 bs2.length c2)) (fun j hj => by cases hj; exact Nat.le_refl _)
  by_cases k1 : k = 1
  · subst k1
    have lit := lit_rd (k := .i64) (e := 2) w4 [0, 6, 7] 3 rfl (by simp [maxLen])
    go_wp2_with fail
    refine (l1Pick_any B b _ w4.heap.size 3 [0, 6, 7] _ (HS4.out.alloc _) (by omega) rfl (by omega) (by omega) (by omega) lit).mono ?_
    rintro e w5 ⟨q, rfl, hq, hs5, hg5⟩
    have hg45 := grownBy_alloc_trans hg5
    have cb5 := Blk.kept CB4.out hg45 (by simp; omega)
    have rb5 := Blk.kept RB4.out hg45 (by simp; omega)
    have row5 := RowB.chg ROW4.out (Chg.one hg45) (.inr (by omega))
    have gw5 := grown_trans GW4.out hg45
    have hz5 := hg45.size
    have y1 := cb5.cell 1
    have yf1 := cb5.frozen 1
    simp at y1
    have hg6 := set_grown w5 cb 1 (.int .i64 q)
    have CBX := hid (show Blk (w5.setCell ⟨cb, 1, none⟩ (.int .i64 q)) cb #[.int .i64 U, .int .i64 q, .slice a2 bs2.length c2] 26 from by simpa using cb5.set (i := 1) (.int .i64 q))
    have RBX := hid (Blk.kept rb5 hg6 (by simp; omega))
    have ROWX := hid ((RowB.apart row5 cb5 (by decide) (by decide) hg6).mono (Nat.le_refl _) (show cb ≤ (w5.setCell ⟨cb, 1, none⟩ (.int .i64 q)).heap.size by have := hg6.size; omega))
    have HSX := hid (hs5.kept hg6 (fun j hj => by cases hj; exact ⟨by omega, by omega⟩))
    have GWX := hid (grown_mix gw5 hg6 (fun j hj => by cases hj; omega))
    have RB5 := hid (show Blk _ _ _ _ from rb5)
    have CB5 := hid (show Blk _ _ _ _ from cb5)
    clear hg6 gw5 row5 rb5 cb5 hg45 hg5 hs5 lit o0 o1 o2 y1 yf1
    have d0 := RB5.out.cell 0
    have d1 := RB5.out.cell 1
    have d2 := RB5.out.cell 2
    have f0 := RB5.out.frozen 0
    have f1 := RB5.out.frozen 1
    have f2 := RB5.out.frozen 2
    have x0 := CB5.out.cell 0
    have x1 := CB5.out.cell 1
    have x2 := CB5.out.cell 2
    have xf0 := CB5.out.frozen 0
    have xf1 := CB5.out.frozen 1
    simp at d0 d1 d2 x0 x1 x2
    have hgs : ∀ x y y2, (w5.setCell ⟨cb, 1, none⟩ (.int .i64 q)).grownBy ((((w5.setCell ⟨cb, 1, none⟩ (.int .i64 q)).setCell ⟨w.heap.size, 0, none⟩ x).setCell ⟨w.heap.size, 1, none⟩ y).setCell ⟨w.heap.size, 2, none⟩ y2) (some w.heap.size) := fun x y y2 => grownT (grownT (set_grown _ _ _ _) (set_grown _ _ _ _)) (set_grown _ _ _ _)
    have HGS := hid hgs
    clear hgs
    go_wp2
    refine bodyPost_ret (v := .agg #[.int .i64 U, .int .i64 q, .slice a2 bs2.length c2]) (by simp [results, Try.results81, go_sem, d0, d1, d2]) rfl ⟨U, q, .slice a2 bs2.length c2, bs2, rfl, ⟨HBB.out, hbl6.1⟩, ?_, ?_, ?_⟩
    · exact (RowB.apart ROWX.out RBX.out (by decide) (by decide) (HGS.out (.int .i64 U) (.int .i64 q) (.slice a2 bs2.length c2))).mono (Nat.le_refl _) (by simp [World.setCell])
    · exact (HSX.out.kept (HGS.out (.int .i64 U) (.int .i64 q) (.slice a2 bs2.length c2)) (fun j hj => by cases hj; exact ⟨hBw, by omega⟩)).more (by omega)
    · exact grown_mix GWX.out (HGS.out (.int .i64 U) (.int .i64 q) (.slice a2 bs2.length c2)) (fun j hj => by cases hj; exact Nat.le_refl _)
  by_cases k2 : k = 2
  · subst k2
    have hdr : w4.grownBy w4.drew none := ⟨rfl, rfl, rfl, Nat.le_refl _, fun _ _ _ => rfl⟩
    have HSD := hid (show Src w4.drew B b (T + 13 + 1) from HS4.out.kept hdr (by simp))
    have GD := hid (show w.grownBy w4.drew (some b) from grown_trans GW4.out (grown_none hdr))
    have CBD := hid (show Blk w4.drew cb #[.int .i64 (U : Int), .int .i64 z, .slice a2 bs2.length c2] 26 from CB4.out)
    have RBD := hid (show Blk w4.drew w.heap.size #[.int .i64 0, .int .i64 0, .slice none 0 0] 26 from RB4.out)
    have ROWD := hid (show RowB 93 5 w4.drew w.heap.size cb (.slice a2 bs2.length c2) bs2.length bs2 from ROW4.out.below ((Below.refl _ _).drew))
    have hDz : cb < w4.drew.heap.size := hcw
    have x2D : w4.drew.cell? ⟨cb, 2, none⟩ = some (.slice a2 bs2.length c2) := o2
    clear CB4 RB4 ROW4 HS4 GW4 hdr o0 o1 o2
    obtain ⟨T1, hT1⟩ : ∃ T1, T1 = T + 13 + 1 := ⟨_, rfl⟩
    rw [← hT1] at HSD
    have hT1b : T1 ≤ 10000 := by omega
    go_wp2_with fail
    refine region_join (fun a a' w' => ∃ (G1 G2 MM NN : Nat) (q1 : Int) (r2 : Nat) (a7 : Option Addr) (c7 : Nat), a' = (((((((((((((a.put (some 25) (.pointer (some ⟨cb, 2, none⟩))).put (some 26) (.slice a2 bs2.length c2)).put (some 27) (.pointer (some ⟨b, 0, none⟩))).put (some 28) (.slice (some ⟨G1, 0, none⟩) 3 3)).put (some 29) (.int .i64 q1)).put (some 30) (.pointer (some ⟨b, 0, none⟩))).put (some 31) (.slice (some ⟨G2, 0, none⟩) 3 3)).put (some 32) (.int .i64 (r2 : Int))).put (some 33) (.slice (some ⟨MM, 0, none⟩) r2 r2)).put (some 34) (.agg #[.int .i64 q1, .slice (some ⟨MM, 0, none⟩) r2 r2])).put (some 35) (.slice (some ⟨NN, 0, none⟩) 1 1)).put (some 36) (.slice a7 (bs2.length + 1) c7)).put (some 37) (.pointer (some ⟨cb, 2, none⟩))) ∧ r2 ≤ 70 ∧ Blk w' cb #[.int .i64 (U : Int), .int .i64 z, .slice a7 (bs2.length + 1) c7] 26 ∧ Blk w' w.heap.size #[.int .i64 0, .int .i64 0, .slice none 0 0] 26 ∧ RowB 93 5 w' w.heap.size w'.heap.size (.slice a7 (bs2.length + 1) c7) (bs2.length + 1) (bs2 ++ [(q1, List.replicate r2 0)]) ∧ Src w' B b (T1 + 1 + 1) ∧ w.grownBy w' (some b)) ?_ ?_
    · refine wp_region_held_drew (S := fun w' => ∃ s, w'.cell? ⟨cb, 2, none⟩ = some s) (by kernel_rfl) (by exact ⟨_, x2D⟩) (fun hS => ?_)
      generalize w4.drew = D at *
      clear x2D
      refine wpAnyH_take (i := 0) (v := (.pointer (some ⟨cb, 2, none⟩))) rfl (by as_aux_lemma => kernel_rfl) (by as_aux_lemma => kernel_rfl) (by as_aux_lemma => kernel_rfl) (fun _ _ _ h => nomatch h.1) (Or.inl ⟨by kernel_rfl, ?_⟩) hS ?_
      · intro w hSw; (try dsimp only at hSw); go_simp
      simp only [Act.put, List.getElem_toArray, List.getElem_cons_zero, List.getElem_cons_succ, List.setIfInBounds_toArray, List.set_cons_zero, List.set_cons_succ]
      refine wpAnyH_take (i := 2) (v := (.pointer (some ⟨b, 0, none⟩))) rfl (by as_aux_lemma => kernel_rfl) (by as_aux_lemma => kernel_rfl) (by as_aux_lemma => kernel_rfl) (fun _ _ _ h => nomatch h.1) (Or.inl ⟨by kernel_rfl, ?_⟩) hS ?_
      · intro w hSw; (try dsimp only at hSw); go_simp
      simp only [Act.put, List.getElem_toArray, List.getElem_cons_zero, List.getElem_cons_succ, List.setIfInBounds_toArray, List.set_cons_zero, List.set_cons_succ]
      refine wpAnyH_take (i := 5) (v := (.pointer (some ⟨b, 0, none⟩))) rfl (by as_aux_lemma => kernel_rfl) (by as_aux_lemma => kernel_rfl) (by as_aux_lemma => kernel_rfl) (fun _ _ _ h => nomatch h.1) (Or.inl ⟨by kernel_rfl, ?_⟩) hS ?_
      · intro w hSw; (try dsimp only at hSw); go_simp
      simp only [Act.put, List.getElem_toArray, List.getElem_cons_zero, List.getElem_cons_succ, List.setIfInBounds_toArray, List.set_cons_zero, List.set_cons_succ]
      refine wpAnyH_ready (rs := [1, 3, 6]) (by as_aux_lemma => kernel_rfl) (by simp) ?_
      refine AllReadyH.cons rfl (fun K hK => ?_) (AllReadyH.cons rfl (fun K hK => ?_) (AllReadyH.cons rfl (fun K hK => ?_) AllReadyH.nil))
      · skip
        have k2 : D.cell? ⟨cb, 2, none⟩ = some (.slice a2 bs2.length c2) := by have q := (Blk.kept CBD.out (World.grownBy.refl D (some b)) (by simp; omega)).cell 2; simpa using q
        go_simp
        refine hK.out _ _ hS (fun hS => ?_)
        clear hK K
        (try simp only [Act.put, List.getElem_toArray, List.getElem_cons_zero, List.getElem_cons_succ, List.setIfInBounds_toArray, List.set_cons_zero, List.set_cons_succ])
        clear k2
        refine wpAnyH_ready (rs := [3, 6]) (by as_aux_lemma => kernel_rfl) (by simp) ?_
        refine AllReadyH.cons rfl (fun K hK => ?_) (AllReadyH.cons rfl (fun K hK => ?_) AllReadyH.nil)
        · skip
          go_simp
          have ga1 : D.grownBy (D.alloc (Obj.cells #[Value.int .i64 0, Value.int .i64 401, Value.int .i64 (-1)] 2)) (some b) := grown_none (World.grownBy_alloc _ _ none)
          have lit1 := lit_rd (k := .i64) (e := 2) D [0, 401, -1] 3 rfl (by simp [maxLen])
          have gb1 := grown_trans (World.grownBy.refl D (some b)) ga1
          have sa1 : Src (D.alloc (Obj.cells #[Value.int .i64 0, Value.int .i64 401, Value.int .i64 (-1)] 2)) B b T1 := Src.alloc HSD.out _
          have hza1 : D.heap.size ≤ D.heap.size := ((World.grownBy.refl D (some b))).size
          have hzb1 : (D.alloc (Obj.cells #[Value.int .i64 0, Value.int .i64 401, Value.int .i64 (-1)] 2)).heap.size = D.heap.size + 1 := by simp
          (try simp only [World.size_alloc] at lit1 hza1 hzb1)
          refine hK.out _ _ ⟨_, (Blk.kept CBD.out gb1 (by simp; omega)).cell 2⟩ (fun hS => ?_)
          clear hK K
          (try simp only [Act.put, List.getElem_toArray, List.getElem_cons_zero, List.getElem_cons_succ, List.setIfInBounds_toArray, List.set_cons_zero, List.set_cons_succ])
          refine wpAnyH_ready (rs := [4, 6]) (by as_aux_lemma => kernel_rfl) (by simp) ?_
          refine AllReadyH.cons rfl (fun K hK => ?_) (AllReadyH.cons rfl (fun K hK => ?_) AllReadyH.nil)
          · skip
            go_simp
            refine (l1Pick_any B b T1 (D.heap.size) 3 [0, 401, -1] (D.alloc (Obj.cells #[Value.int .i64 0, Value.int .i64 401, Value.int .i64 (-1)] 2)) sa1 (by omega) rfl (by omega) (by omega) (by omega) lit1).mono ?_
            rintro e w1 ⟨q1, rfl, hq1, hs1, hg1⟩
            have gg1 := grown_trans gb1 hg1
            have hzg1 := gg1.size
            refine hK.out _ _ ⟨_, (Blk.kept CBD.out gg1 (by simp; omega)).cell 2⟩ (fun hS => ?_)
            clear hK K
            (try simp only [Act.put, List.getElem_toArray, List.getElem_cons_zero, List.getElem_cons_succ, List.setIfInBounds_toArray, List.set_cons_zero, List.set_cons_succ])
            refine wpAnyH_ready (rs := [6]) (by as_aux_lemma => kernel_rfl) (by simp) ?_
            refine AllReadyH.cons rfl (fun K hK => ?_) AllReadyH.nil
            go_simp
            have ga2 : w1.grownBy (w1.alloc (Obj.cells #[Value.int .i64 0, Value.int .i64 1, Value.int .i64 70] 2)) (some b) := grown_none (World.grownBy_alloc _ _ none)
            have lit2 := lit_rd (k := .i64) (e := 2) w1 [0, 1, 70] 3 rfl (by simp [maxLen])
            have gb2 := grown_trans gg1 ga2
            have sa2 : Src (w1.alloc (Obj.cells #[Value.int .i64 0, Value.int .i64 1, Value.int .i64 70] 2)) B b (T1 + 1) := Src.alloc hs1 _
            have hza2 : D.heap.size ≤ w1.heap.size := (gg1).size
            have hzb2 : (w1.alloc (Obj.cells #[Value.int .i64 0, Value.int .i64 1, Value.int .i64 70] 2)).heap.size = w1.heap.size + 1 := by simp
            (try simp only [World.size_alloc] at lit2 hza2 hzb2)
            refine hK.out _ _ ⟨_, (Blk.kept CBD.out gb2 (by simp; omega)).cell 2⟩ (fun hS => ?_)
            clear hK K
            (try simp only [Act.put, List.getElem_toArray, List.getElem_cons_zero, List.getElem_cons_succ, List.setIfInBounds_toArray, List.set_cons_zero, List.set_cons_succ])
            refine wpAnyH_ready (rs := [7]) (by as_aux_lemma => kernel_rfl) (by simp) ?_
            refine AllReadyH.cons rfl (fun K hK => ?_) AllReadyH.nil
            go_simp
            refine (l1Pick_any B b (T1 + 1) (w1.heap.size) 3 [0, 1, 70] (w1.alloc (Obj.cells #[Value.int .i64 0, Value.int .i64 1, Value.int .i64 70] 2)) sa2 (by omega) rfl (by omega) (by omega) (by omega) lit2).mono ?_
            rintro e w2 ⟨q2, rfl, hq2, hs2, hg2⟩
            have gg2 := grown_trans gb2 hg2
            have hzg2 := gg2.size
            obtain ⟨r2, rfl, hr2⟩ : ∃ r2 : Nat, q2 = (r2 : Int) ∧ r2 ≤ 70 := by simp at hq2; exact ⟨q2.toNat, by omega, by omega⟩
            refine hK.out _ _ ⟨_, (Blk.kept CBD.out gg2 (by simp; omega)).cell 2⟩ (fun hS => ?_)
            clear hK K
            (try simp only [Act.put, List.getElem_toArray, List.getElem_cons_zero, List.getElem_cons_succ, List.setIfInBounds_toArray, List.set_cons_zero, List.set_cons_succ])
            refine wpAnyH_ready (rs := [8]) (by as_aux_lemma => kernel_rfl) (by simp) ?_
            refine AllReadyH.cons rfl (fun K hK => ?_) AllReadyH.nil
            rw [if_pos (by rfl)]
            refine wp_make_rd _ _ 22 rfl .u8 w2.heap.size 5 j0 Try.underlying22 hj hj0 hj1 r2 rfl rfl (by rw [hj2]; omega) (by unfold maxLen; omega) (Nat.le_refl _) ?_
            intro w3 hm3 hg3 hz3e
            have hz3a : w2.heap.size + 1 ≤ w3.heap.size := by omega
            clear hz3e
            have gg3 := grown_trans gg2 (grown_none (row := some b) hg3)
            have hs3 := Src.kept hs2 hg3 (by simp)
            have hMz : D.heap.size ≤ w2.heap.size := (gg2).size
            refine hK.out _ _ ⟨_, (Blk.kept CBD.out gg3 (by simp; omega)).cell 2⟩ (fun hS => ?_)
            clear hK K
            (try simp only [Act.put, List.getElem_toArray, List.getElem_cons_zero, List.getElem_cons_succ, List.setIfInBounds_toArray, List.set_cons_zero, List.set_cons_succ])
            refine wpAnyH_take (i := 9) (v := (.agg #[.int .i64 q1, .slice (some ⟨w2.heap.size, 0, none⟩) r2 r2])) rfl (by as_aux_lemma => kernel_rfl) (by as_aux_lemma => kernel_rfl) (by as_aux_lemma => kernel_rfl) (fun _ _ _ h => nomatch h.1) (Or.inl ⟨by kernel_rfl, ?_⟩) hS ?_
            · intro w hSw; (try dsimp only at hSw); go_simp
            simp only [Act.put, List.getElem_toArray, List.getElem_cons_zero, List.getElem_cons_succ, List.setIfInBounds_toArray, List.set_cons_zero, List.set_cons_succ]
            refine wpAnyH_ready (rs := [10]) (by as_aux_lemma => kernel_rfl) (by simp) ?_
            refine AllReadyH.cons rfl (fun K hK => ?_) AllReadyH.nil
            go_simp
            have ga4 : w3.grownBy (w3.alloc (Obj.cells #[Value.int .i64 q1, Value.slice (some ⟨w2.heap.size, 0, none⟩) r2 r2] 93)) (some b) := grown_none (World.grownBy_alloc _ _ none)
            have gb4 := grown_trans gg3 ga4
            have sa4 : Src (w3.alloc (Obj.cells #[Value.int .i64 q1, Value.slice (some ⟨w2.heap.size, 0, none⟩) r2 r2] 93)) B b ((T1 + 1) + 1) := Src.alloc hs3 _
            have hbN : Below w3.heap.size w3 (w3.alloc (Obj.cells #[Value.int .i64 q1, Value.slice (some ⟨w2.heap.size, 0, none⟩) r2 r2] 93)) := (Below.refl _ _).alloc (Nat.le_refl _) _
            have hrF : RowI .u8 5 (w3.alloc (Obj.cells #[Value.int .i64 q1, Value.slice (some ⟨w2.heap.size, 0, none⟩) r2 r2] 93)) w2.heap.size w3.heap.size (.slice (some ⟨w2.heap.size, 0, none⟩) r2 r2) (List.replicate r2 (0 : Int)).length (List.replicate r2 0) := by rw [List.length_replicate]; exact RowI.below (RowI.of hm3) hbN
            have hcl : ∀ j q, (bkE (q1, .slice (some ⟨w2.heap.size, 0, none⟩) r2 r2))[j]? = some q → (w3.alloc (Obj.cells #[Value.int .i64 q1, Value.slice (some ⟨w2.heap.size, 0, none⟩) r2 r2] 93)).cell? ((⟨w3.heap.size, 0, none⟩ : Addr).add j) = some q := fun j q hq => by
              rw [Addr.add_lit, Nat.zero_add, World.cell?_alloc_at _ _ _ _ rfl]
              simpa [bkE] using hq
            have hFz : (w3.alloc (Obj.cells #[Value.int .i64 q1, Value.slice (some ⟨w2.heap.size, 0, none⟩) r2 r2] 93)).heap.size = w3.heap.size + 1 := by simp
            have HRF := hid hrF
            have HCL := hid hcl
            clear hrF hcl hbN
            have S4 : ∃ s, (w3.alloc (Obj.cells #[Value.int .i64 q1, Value.slice (some ⟨w2.heap.size, 0, none⟩) r2 r2] 93)).cell? ⟨cb, 2, none⟩ = some s := ⟨_, (Blk.kept CBD.out gb4 (by simp; omega)).cell 2⟩
            refine hK.out _ _ S4 (fun hS => ?_)
            clear hK K
            (try simp only [Act.put, List.getElem_toArray, List.getElem_cons_zero, List.getElem_cons_succ, List.setIfInBounds_toArray, List.set_cons_zero, List.set_cons_succ])
            refine wpAnyH_ready (rs := [11]) (by as_aux_lemma => kernel_rfl) (by simp) ?_
            refine AllReadyH.cons rfl (fun K hK => ?_) AllReadyH.nil
            rw [if_pos (by rfl)]
            have hoF := RowB.chg ROWD.out (Chg.one gb4) (.inr (by omega))
            obtain ⟨us, hus⟩ : ∃ us : List Bv, (w3.alloc (Obj.cells #[Value.int .i64 q1, Value.slice (some ⟨w2.heap.size, 0, none⟩) r2 r2] 93)).ownsRow w.heap.size 93 2 (.slice a2 bs2.length c2) bs2.length (us.flatMap bkE) := by
              obtain ⟨us, q1', q2', q3', q4'⟩ := hoF
              exact ⟨us, q1'.1.2⟩
            refine wp_append_own _ _ _ 24 rfl w.heap.size 93 i0 (.agg #[.int .i64 0, .slice none 0 0]) 2 32 Try.underlying24 hi' hz0 hz1 hz2 rfl (by decide) _ bs2.length (us.flatMap bkE) rfl hus ⟨w3.heap.size, 0, none⟩ 1 1 (bkE (q1, .slice (some ⟨w2.heap.size, 0, none⟩) r2 r2)) rfl rfl HCL.out (bkE_one q1 (some ⟨w2.heap.size, 0, none⟩) r2 r2) (by unfold maxLen; omega) (by omega) (by omega) ?_
            intro v7 w7 ho7 hg7 _
            have lo7 := World.ownsRow.lt hus
            have hsn := RowB.snoc (num := q1) bu_ne hoF HRF.out (by omega) (by omega) (by omega) (fun us' h' => by rw [ownsRow_same h' hus]; exact ho7) hg7
            have cbF := Blk.kept CBD.out gb4 (by simp; omega)
            have rbF := Blk.kept RBD.out gb4 (by simp; omega)
            have cb7 := Blk.kept cbF hg7 (Blk.not_row cbF (by decide) hus)
            have rb7 := Blk.kept rbF hg7 (Blk.not_row rbF (by decide) hus)
            have gw7 := grown_mix (grown_trans GD.out gb4) hg7 (fun j hj => (lo7 j hj).1)
            have hs7 := Src.kept sa4 hg7 (fun j hj => ⟨by have := (lo7 j hj).1; omega, by have := (lo7 j hj).1; omega⟩)
            obtain ⟨a7, c7, hv7, -, -⟩ := hsn.shape
            subst hv7
            have x2 := cb7.cell 2
            have xf2 := cb7.frozen 2
            simp at x2
            have hz7 := hg7.size
            refine hK.out _ _ ⟨_, x2⟩ (fun hS => ?_)
            clear hK K
            (try simp only [Act.put, List.getElem_toArray, List.getElem_cons_zero, List.getElem_cons_succ, List.setIfInBounds_toArray, List.set_cons_zero, List.set_cons_succ])
            refine wpAnyH_take (i := 12) (v := (.pointer (some ⟨cb, 2, none⟩))) rfl (by as_aux_lemma => kernel_rfl) (by as_aux_lemma => kernel_rfl) (by as_aux_lemma => kernel_rfl) (fun _ _ _ h => nomatch h.1) (Or.inl ⟨by kernel_rfl, ?_⟩) hS ?_
            · intro w hSw; (try dsimp only at hSw); go_simp
            simp only [Act.put, List.getElem_toArray, List.getElem_cons_zero, List.getElem_cons_succ, List.setIfInBounds_toArray, List.set_cons_zero, List.set_cons_succ]
            refine wpAnyH_ready (rs := [13]) (by as_aux_lemma => kernel_rfl) (by simp) ?_
            refine AllReadyH.cons rfl (fun K hK => ?_) AllReadyH.nil
            go_simp
            have cb8 := cb7.set (i := 2) (.slice a7 (bs2.length + 1) c7)
            have hg8 := set_grown w7 cb 2 (.slice a7 (bs2.length + 1) c7)
            refine hK.out _ _ ⟨_, cb8.cell 2⟩ (fun hS => ?_)
            clear hK K
            (try simp only [Act.put, List.getElem_toArray, List.getElem_cons_zero, List.getElem_cons_succ, List.setIfInBounds_toArray, List.set_cons_zero, List.set_cons_succ])
            refine wpAnyH_done (by kernel_rfl) ?_ _
            refine ⟨rfl, D.heap.size, w1.heap.size, w2.heap.size, w3.heap.size, q1, r2, a7, c7, ?_, hr2, by simpa using cb8, Blk.kept rb7 hg8 (by simp; omega), RowB.mono (RowB.apart hsn cb7 (by decide) (by decide) hg8) (Nat.le_refl _) hg8.size, ?_, ?_⟩
            · simp only [Act.put, List.getElem_toArray, List.getElem_cons_zero, List.getElem_cons_succ, List.setIfInBounds_toArray, List.set_cons_zero, List.set_cons_succ]
            · exact hs7.kept hg8 (fun j hj => by cases hj; exact ⟨by omega, by omega⟩)
            · exact grown_mix gw7 hg8 (fun j hj => by cases hj; omega)
          · skip
            go_simp
            have ga2 : (D.alloc (Obj.cells #[Value.int .i64 0, Value.int .i64 401, Value.int .i64 (-1)] 2)).grownBy ((D.alloc (Obj.cells #[Value.int .i64 0, Value.int .i64 401, Value.int .i64 (-1)] 2)).alloc (Obj.cells #[Value.int .i64 0, Value.int .i64 1, Value.int .i64 70] 2)) (some b) := grown_none (World.grownBy_alloc _ _ none)
            have lit1' := rd_kept lit1 ga2 (fun ad had => by cases had; simp; omega)
            have lit2 := lit_rd (k := .i64) (e := 2) (D.alloc (Obj.cells #[Value.int .i64 0, Value.int .i64 401, Value.int .i64 (-1)] 2)) [0, 1, 70] 3 rfl (by simp [maxLen])
            have gb2 := grown_trans gb1 ga2
            have sa2 : Src ((D.alloc (Obj.cells #[Value.int .i64 0, Value.int .i64 401, Value.int .i64 (-1)] 2)).alloc (Obj.cells #[Value.int .i64 0, Value.int .i64 1, Value.int .i64 70] 2)) B b T1 := Src.alloc sa1 _
            have hza2 : D.heap.size ≤ (D.alloc (Obj.cells #[Value.int .i64 0, Value.int .i64 401, Value.int .i64 (-1)] 2)).heap.size := (gb1).size
            have hzb2 : ((D.alloc (Obj.cells #[Value.int .i64 0, Value.int .i64 401, Value.int .i64 (-1)] 2)).alloc (Obj.cells #[Value.int .i64 0, Value.int .i64 1, Value.int .i64 70] 2)).heap.size = (D.alloc (Obj.cells #[Value.int .i64 0, Value.int .i64 401, Value.int .i64 (-1)] 2)).heap.size + 1 := by simp
            (try simp only [World.size_alloc] at lit2 hza2 hzb2)
            refine hK.out _ _ ⟨_, (Blk.kept CBD.out gb2 (by simp; omega)).cell 2⟩ (fun hS => ?_)
            clear hK K
            (try simp only [Act.put, List.getElem_toArray, List.getElem_cons_zero, List.getElem_cons_succ, List.setIfInBounds_toArray, List.set_cons_zero, List.set_cons_succ])
            refine wpAnyH_ready (rs := [4]) (by as_aux_lemma => kernel_rfl) (by simp) ?_
            refine AllReadyH.cons rfl (fun K hK => ?_) AllReadyH.nil
            go_simp
            refine (l1Pick_any B b T1 (D.heap.size) 3 [0, 401, -1] ((D.alloc (Obj.cells #[Value.int .i64 0, Value.int .i64 401, Value.int .i64 (-1)] 2)).alloc (Obj.cells #[Value.int .i64 0, Value.int .i64 1, Value.int .i64 70] 2)) sa2 (by omega) rfl (by omega) (by omega) (by omega) lit1').mono ?_
            rintro e w1 ⟨q1, rfl, hq1, hs1, hg1⟩
            have gg1 := grown_trans gb2 hg1
            have hzg1 := gg1.size
            have lit2' := rd_kept lit2 hg1 (fun ad had => by cases had; simp; omega)
            refine hK.out _ _ ⟨_, (Blk.kept CBD.out gg1 (by simp; omega)).cell 2⟩ (fun hS => ?_)
            clear hK K
            (try simp only [Act.put, List.getElem_toArray, List.getElem_cons_zero, List.getElem_cons_succ, List.setIfInBounds_toArray, List.set_cons_zero, List.set_cons_succ])
            refine wpAnyH_ready (rs := [7]) (by as_aux_lemma => kernel_rfl) (by simp) ?_
            refine AllReadyH.cons rfl (fun K hK => ?_) AllReadyH.nil
            go_simp
            refine (l1Pick_any B b (T1 + 1) (D.heap.size + 1) 3 [0, 1, 70] w1 hs1 (by omega) rfl (by omega) (by omega) (by omega) lit2').mono ?_
            rintro e w2 ⟨q2, rfl, hq2, hs2, hg2⟩
            have gg2 := grown_trans gg1 hg2
            have hzg2 := gg2.size
            obtain ⟨r2, rfl, hr2⟩ : ∃ r2 : Nat, q2 = (r2 : Int) ∧ r2 ≤ 70 := by simp at hq2; exact ⟨q2.toNat, by omega, by omega⟩
            refine hK.out _ _ ⟨_, (Blk.kept CBD.out gg2 (by simp; omega)).cell 2⟩ (fun hS => ?_)
            clear hK K
            (try simp only [Act.put, List.getElem_toArray, List.getElem_cons_zero, List.getElem_cons_succ, List.setIfInBounds_toArray, List.set_cons_zero, List.set_cons_succ])
            refine wpAnyH_ready (rs := [8]) (by as_aux_lemma => kernel_rfl) (by simp) ?_
            refine AllReadyH.cons rfl (fun K hK => ?_) AllReadyH.nil
            rw [if_pos (by rfl)]
            refine wp_make_rd _ _ 22 rfl .u8 w2.heap.size 5 j0 Try.underlying22 hj hj0 hj1 r2 rfl rfl (by rw [hj2]; omega) (by unfold maxLen; omega) (Nat.le_refl _) ?_
            intro w3 hm3 hg3 hz3e
            have hz3a : w2.heap.size + 1 ≤ w3.heap.size := by omega
            clear hz3e
            have gg3 := grown_trans gg2 (grown_none (row := some b) hg3)
            have hs3 := Src.kept hs2 hg3 (by simp)
            have hMz : D.heap.size ≤ w2.heap.size := (gg2).size
            refine hK.out _ _ ⟨_, (Blk.kept CBD.out gg3 (by simp; omega)).cell 2⟩ (fun hS => ?_)
            clear hK K
            (try simp only [Act.put, List.getElem_toArray, List.getElem_cons_zero, List.getElem_cons_succ, List.setIfInBounds_toArray, List.set_cons_zero, List.set_cons_succ])
            refine wpAnyH_take (i := 9) (v := (.agg #[.int .i64 q1, .slice (some ⟨w2.heap.size, 0, none⟩) r2 r2])) rfl (by as_aux_lemma => kernel_rfl) (by as_aux_lemma => kernel_rfl) (by as_aux_lemma => kernel_rfl) (fun _ _ _ h => nomatch h.1) (Or.inl ⟨by kernel_rfl, ?_⟩) hS ?_
            · intro w hSw; (try dsimp only at hSw); go_simp
            simp only [Act.put, List.getElem_toArray, List.getElem_cons_zero, List.getElem_cons_succ, List.setIfInBounds_toArray, List.set_cons_zero, List.set_cons_succ]
            refine wpAnyH_ready (rs := [10]) (by as_aux_lemma => kernel_rfl) (by simp) ?_
            refine AllReadyH.cons rfl (fun K hK => ?_) AllReadyH.nil
            go_simp
            have ga4 : w3.grownBy (w3.alloc (Obj.cells #[Value.int .i64 q1, Value.slice (some ⟨w2.heap.size, 0, none⟩) r2 r2] 93)) (some b) := grown_none (World.grownBy_alloc _ _ none)
            have gb4 := grown_trans gg3 ga4
            have sa4 : Src (w3.alloc (Obj.cells #[Value.int .i64 q1, Value.slice (some ⟨w2.heap.size, 0, none⟩) r2 r2] 93)) B b ((T1 + 1) + 1) := Src.alloc hs3 _
            have hbN : Below w3.heap.size w3 (w3.alloc (Obj.cells #[Value.int .i64 q1, Value.slice (some ⟨w2.heap.size, 0, none⟩) r2 r2] 93)) := (Below.refl _ _).alloc (Nat.le_refl _) _
            have hrF : RowI .u8 5 (w3.alloc (Obj.cells #[Value.int .i64 q1, Value.slice (some ⟨w2.heap.size, 0, none⟩) r2 r2] 93)) w2.heap.size w3.heap.size (.slice (some ⟨w2.heap.size, 0, none⟩) r2 r2) (List.replicate r2 (0 : Int)).length (List.replicate r2 0) := by rw [List.length_replicate]; exact RowI.below (RowI.of hm3) hbN
            have hcl : ∀ j q, (bkE (q1, .slice (some ⟨w2.heap.size, 0, none⟩) r2 r2))[j]? = some q → (w3.alloc (Obj.cells #[Value.int .i64 q1, Value.slice (some ⟨w2.heap.size, 0, none⟩) r2 r2] 93)).cell? ((⟨w3.heap.size, 0, none⟩ : Addr).add j) = some q := fun j q hq => by
              rw [Addr.add_lit, Nat.zero_add, World.cell?_alloc_at _ _ _ _ rfl]
              simpa [bkE] using hq
            have hFz : (w3.alloc (Obj.cells #[Value.int .i64 q1, Value.slice (some ⟨w2.heap.size, 0, none⟩) r2 r2] 93)).heap.size = w3.heap.size + 1 := by simp
            have HRF := hid hrF
            have HCL := hid hcl
            clear hrF hcl hbN
            have S4 : ∃ s, (w3.alloc (Obj.cells #[Value.int .i64 q1, Value.slice (some ⟨w2.heap.size, 0, none⟩) r2 r2] 93)).cell? ⟨cb, 2, none⟩ = some s := ⟨_, (Blk.kept CBD.out gb4 (by simp; omega)).cell 2⟩
            refine hK.out _ _ S4 (fun hS => ?_)
            clear hK K
            (try simp only [Act.put, List.getElem_toArray, List.getElem_cons_zero, List.getElem_cons_succ, List.setIfInBounds_toArray, List.set_cons_zero, List.set_cons_succ])
            refine wpAnyH_ready (rs := [11]) (by as_aux_lemma => kernel_rfl) (by simp) ?_
            refine AllReadyH.cons rfl (fun K hK => ?_) AllReadyH.nil
            rw [if_pos (by rfl)]
            have hoF := RowB.chg ROWD.out (Chg.one gb4) (.inr (by omega))
            obtain ⟨us, hus⟩ : ∃ us : List Bv, (w3.alloc (Obj.cells #[Value.int .i64 q1, Value.slice (some ⟨w2.heap.size, 0, none⟩) r2 r2] 93)).ownsRow w.heap.size 93 2 (.slice a2 bs2.length c2) bs2.length (us.flatMap bkE) := by
              obtain ⟨us, q1', q2', q3', q4'⟩ := hoF
              exact ⟨us, q1'.1.2⟩
            refine wp_append_own _ _ _ 24 rfl w.heap.size 93 i0 (.agg #[.int .i64 0, .slice none 0 0]) 2 32 Try.underlying24 hi' hz0 hz1 hz2 rfl (by decide) _ bs2.length (us.flatMap bkE) rfl hus ⟨w3.heap.size, 0, none⟩ 1 1 (bkE (q1, .slice (some ⟨w2.heap.size, 0, none⟩) r2 r2)) rfl rfl HCL.out (bkE_one q1 (some ⟨w2.heap.size, 0, none⟩) r2 r2) (by unfold maxLen; omega) (by omega) (by omega) ?_
            intro v7 w7 ho7 hg7 _
            have lo7 := World.ownsRow.lt hus
            have hsn := RowB.snoc (num := q1) bu_ne hoF HRF.out (by omega) (by omega) (by omega) (fun us' h' => by rw [ownsRow_same h' hus]; exact ho7) hg7
            have cbF := Blk.kept CBD.out gb4 (by simp; omega)
            have rbF := Blk.kept RBD.out gb4 (by simp; omega)
            have cb7 := Blk.kept cbF hg7 (Blk.not_row cbF (by decide) hus)
            have rb7 := Blk.kept rbF hg7 (Blk.not_row rbF (by decide) hus)
            have gw7 := grown_mix (grown_trans GD.out gb4) hg7 (fun j hj => (lo7 j hj).1)
            have hs7 := Src.kept sa4 hg7 (fun j hj => ⟨by have := (lo7 j hj).1; omega, by have := (lo7 j hj).1; omega⟩)
            obtain ⟨a7, c7, hv7, -, -⟩ := hsn.shape
            subst hv7
            have x2 := cb7.cell 2
            have xf2 := cb7.frozen 2
            simp at x2
            have hz7 := hg7.size
            refine hK.out _ _ ⟨_, x2⟩ (fun hS => ?_)
            clear hK K
            (try simp only [Act.put, List.getElem_toArray, List.getElem_cons_zero, List.getElem_cons_succ, List.setIfInBounds_toArray, List.set_cons_zero, List.set_cons_succ])
            refine wpAnyH_take (i := 12) (v := (.pointer (some ⟨cb, 2, none⟩))) rfl (by as_aux_lemma => kernel_rfl) (by as_aux_lemma => kernel_rfl) (by as_aux_lemma => kernel_rfl) (fun _ _ _ h => nomatch h.1) (Or.inl ⟨by kernel_rfl, ?_⟩) hS ?_
            · intro w hSw; (try dsimp only at hSw); go_simp
            simp only [Act.put, List.getElem_toArray, List.getElem_cons_zero, List.getElem_cons_succ, List.setIfInBounds_toArray, List.set_cons_zero, List.set_cons_succ]
            refine wpAnyH_ready (rs := [13]) (by as_aux_lemma => kernel_rfl) (by simp) ?_
            refine AllReadyH.cons rfl (fun K hK => ?_) AllReadyH.nil
            go_simp
            have cb8 := cb7.set (i := 2) (.slice a7 (bs2.length + 1) c7)
            have hg8 := set_grown w7 cb 2 (.slice a7 (bs2.length + 1) c7)
            refine hK.out _ _ ⟨_, cb8.cell 2⟩ (fun hS => ?_)
            clear hK K
            (try simp only [Act.put, List.getElem_toArray, List.getElem_cons_zero, List.getElem_cons_succ, List.setIfInBounds_toArray, List.set_cons_zero, List.set_cons_succ])
            refine wpAnyH_done (by kernel_rfl) ?_ _
            refine ⟨rfl, D.heap.size, D.heap.size + 1, w2.heap.size, w3.heap.size, q1, r2, a7, c7, ?_, hr2, by simpa using cb8, Blk.kept rb7 hg8 (by simp; omega), RowB.mono (RowB.apart hsn cb7 (by decide) (by decide) hg8) (Nat.le_refl _) hg8.size, ?_, ?_⟩
            · simp only [Act.put, List.getElem_toArray, List.getElem_cons_zero, List.getElem_cons_succ, List.setIfInBounds_toArray, List.set_cons_zero, List.set_cons_succ]
            · exact hs7.kept hg8 (fun j hj => by cases hj; exact ⟨by omega, by omega⟩)
            · exact grown_mix gw7 hg8 (fun j hj => by cases hj; omega)
        · skip
          go_simp
          have ga2 : D.grownBy (D.alloc (Obj.cells #[Value.int .i64 0, Value.int .i64 1, Value.int .i64 70] 2)) (some b) := grown_none (World.grownBy_alloc _ _ none)
          have lit2 := lit_rd (k := .i64) (e := 2) D [0, 1, 70] 3 rfl (by simp [maxLen])
          have gb2 := grown_trans (World.grownBy.refl D (some b)) ga2
          have sa2 : Src (D.alloc (Obj.cells #[Value.int .i64 0, Value.int .i64 1, Value.int .i64 70] 2)) B b T1 := Src.alloc HSD.out _
          have hza2 : D.heap.size ≤ D.heap.size := ((World.grownBy.refl D (some b))).size
          have hzb2 : (D.alloc (Obj.cells #[Value.int .i64 0, Value.int .i64 1, Value.int .i64 70] 2)).heap.size = D.heap.size + 1 := by simp
          (try simp only [World.size_alloc] at lit2 hza2 hzb2)
          refine hK.out _ _ ⟨_, (Blk.kept CBD.out gb2 (by simp; omega)).cell 2⟩ (fun hS => ?_)
          clear hK K
          (try simp only [Act.put, List.getElem_toArray, List.getElem_cons_zero, List.getElem_cons_succ, List.setIfInBounds_toArray, List.set_cons_zero, List.set_cons_succ])
          refine wpAnyH_ready (rs := [3]) (by as_aux_lemma => kernel_rfl) (by simp) ?_
          refine AllReadyH.cons rfl (fun K hK => ?_) AllReadyH.nil
          go_simp
          have ga1 : (D.alloc (Obj.cells #[Value.int .i64 0, Value.int .i64 1, Value.int .i64 70] 2)).grownBy ((D.alloc (Obj.cells #[Value.int .i64 0, Value.int .i64 1, Value.int .i64 70] 2)).alloc (Obj.cells #[Value.int .i64 0, Value.int .i64 401, Value.int .i64 (-1)] 2)) (some b) := grown_none (World.grownBy_alloc _ _ none)
          have lit2' := rd_kept lit2 ga1 (fun ad had => by cases had; simp; omega)
          have lit1 := lit_rd (k := .i64) (e := 2) (D.alloc (Obj.cells #[Value.int .i64 0, Value.int .i64 1, Value.int .i64 70] 2)) [0, 401, -1] 3 rfl (by simp [maxLen])
          have gb1 := grown_trans gb2 ga1
          have sa1 : Src ((D.alloc (Obj.cells #[Value.int .i64 0, Value.int .i64 1, Value.int .i64 70] 2)).alloc (Obj.cells #[Value.int .i64 0, Value.int .i64 401, Value.int .i64 (-1)] 2)) B b T1 := Src.alloc sa2 _
          have hza1 : D.heap.size ≤ (D.alloc (Obj.cells #[Value.int .i64 0, Value.int .i64 1, Value.int .i64 70] 2)).heap.size := (gb2).size
          have hzb1 : ((D.alloc (Obj.cells #[Value.int .i64 0, Value.int .i64 1, Value.int .i64 70] 2)).alloc (Obj.cells #[Value.int .i64 0, Value.int .i64 401, Value.int .i64 (-1)] 2)).heap.size = (D.alloc (Obj.cells #[Value.int .i64 0, Value.int .i64 1, Value.int .i64 70] 2)).heap.size + 1 := by simp
          (try simp only [World.size_alloc] at lit1 hza1 hzb1)
          refine hK.out _ _ ⟨_, (Blk.kept CBD.out gb1 (by simp; omega)).cell 2⟩ (fun hS => ?_)
          clear hK K
          (try simp only [Act.put, List.getElem_toArray, List.getElem_cons_zero, List.getElem_cons_succ, List.setIfInBounds_toArray, List.set_cons_zero, List.set_cons_succ])
          refine wpAnyH_ready (rs := [4]) (by as_aux_lemma => kernel_rfl) (by simp) ?_
          refine AllReadyH.cons rfl (fun K hK => ?_) AllReadyH.nil
          go_simp
          refine (l1Pick_any B b T1 (D.heap.size + 1) 3 [0, 401, -1] ((D.alloc (Obj.cells #[Value.int .i64 0, Value.int .i64 1, Value.int .i64 70] 2)).alloc (Obj.cells #[Value.int .i64 0, Value.int .i64 401, Value.int .i64 (-1)] 2)) sa1 (by omega) rfl (by omega) (by omega) (by omega) lit1).mono ?_
          rintro e w1 ⟨q1, rfl, hq1, hs1, hg1⟩
          have gg1 := grown_trans gb1 hg1
          have hzg1 := gg1.size
          have lit2'' := rd_kept lit2' hg1 (fun ad had => by cases had; simp; omega)
          refine hK.out _ _ ⟨_, (Blk.kept CBD.out gg1 (by simp; omega)).cell 2⟩ (fun hS => ?_)
          clear hK K
          (try simp only [Act.put, List.getElem_toArray, List.getElem_cons_zero, List.getElem_cons_succ, List.setIfInBounds_toArray, List.set_cons_zero, List.set_cons_succ])
          refine wpAnyH_ready (rs := [7]) (by as_aux_lemma => kernel_rfl) (by simp) ?_
          refine AllReadyH.cons rfl (fun K hK => ?_) AllReadyH.nil
          go_simp
          refine (l1Pick_any B b (T1 + 1) (D.heap.size) 3 [0, 1, 70] w1 hs1 (by omega) rfl (by omega) (by omega) (by omega) lit2'').mono ?_
          rintro e w2 ⟨q2, rfl, hq2, hs2, hg2⟩
          have gg2 := grown_trans gg1 hg2
          have hzg2 := gg2.size
          obtain ⟨r2, rfl, hr2⟩ : ∃ r2 : Nat, q2 = (r2 : Int) ∧ r2 ≤ 70 := by simp at hq2; exact ⟨q2.toNat, by omega, by omega⟩
          refine hK.out _ _ ⟨_, (Blk.kept CBD.out gg2 (by simp; omega)).cell 2⟩ (fun hS => ?_)
          clear hK K
          (try simp only [Act.put, List.getElem_toArray, List.getElem_cons_zero, List.getElem_cons_succ, List.setIfInBounds_toArray, List.set_cons_zero, List.set_cons_succ])
          refine wpAnyH_ready (rs := [8]) (by as_aux_lemma => kernel_rfl) (by simp) ?_
          refine AllReadyH.cons rfl (fun K hK => ?_) AllReadyH.nil
          rw [if_pos (by rfl)]
          refine wp_make_rd _ _ 22 rfl .u8 w2.heap.size 5 j0 Try.underlying22 hj hj0 hj1 r2 rfl rfl (by rw [hj2]; omega) (by unfold maxLen; omega) (Nat.le_refl _) ?_
          intro w3 hm3 hg3 hz3e
          have hz3a : w2.heap.size + 1 ≤ w3.heap.size := by omega
          clear hz3e
          have gg3 := grown_trans gg2 (grown_none (row := some b) hg3)
          have hs3 := Src.kept hs2 hg3 (by simp)
          have hMz : D.heap.size ≤ w2.heap.size := (gg2).size
          refine hK.out _ _ ⟨_, (Blk.kept CBD.out gg3 (by simp; omega)).cell 2⟩ (fun hS => ?_)
          clear hK K
          (try simp only [Act.put, List.getElem_toArray, List.getElem_cons_zero, List.getElem_cons_succ, List.setIfInBounds_toArray, List.set_cons_zero, List.set_cons_succ])
          refine wpAnyH_take (i := 9) (v := (.agg #[.int .i64 q1, .slice (some ⟨w2.heap.size, 0, none⟩) r2 r2])) rfl (by as_aux_lemma => kernel_rfl) (by as_aux_lemma => kernel_rfl) (by as_aux_lemma => kernel_rfl) (fun _ _ _ h => nomatch h.1) (Or.inl ⟨by kernel_rfl, ?_⟩) hS ?_
          · intro w hSw; (try dsimp only at hSw); go_simp
          simp only [Act.put, List.getElem_toArray, List.getElem_cons_zero, List.getElem_cons_succ, List.setIfInBounds_toArray, List.set_cons_zero, List.set_cons_succ]
          refine wpAnyH_ready (rs := [10]) (by as_aux_lemma => kernel_rfl) (by simp) ?_
          refine AllReadyH.cons rfl (fun K hK => ?_) AllReadyH.nil
          go_simp
          have ga4 : w3.grownBy (w3.alloc (Obj.cells #[Value.int .i64 q1, Value.slice (some ⟨w2.heap.size, 0, none⟩) r2 r2] 93)) (some b) := grown_none (World.grownBy_alloc _ _ none)
          have gb4 := grown_trans gg3 ga4
          have sa4 : Src (w3.alloc (Obj.cells #[Value.int .i64 q1, Value.slice (some ⟨w2.heap.size, 0, none⟩) r2 r2] 93)) B b ((T1 + 1) + 1) := Src.alloc hs3 _
          have hbN : Below w3.heap.size w3 (w3.alloc (Obj.cells #[Value.int .i64 q1, Value.slice (some ⟨w2.heap.size, 0, none⟩) r2 r2] 93)) := (Below.refl _ _).alloc (Nat.le_refl _) _
          have hrF : RowI .u8 5 (w3.alloc (Obj.cells #[Value.int .i64 q1, Value.slice (some ⟨w2.heap.size, 0, none⟩) r2 r2] 93)) w2.heap.size w3.heap.size (.slice (some ⟨w2.heap.size, 0, none⟩) r2 r2) (List.replicate r2 (0 : Int)).length (List.replicate r2 0) := by rw [List.length_replicate]; exact RowI.below (RowI.of hm3) hbN
          have hcl : ∀ j q, (bkE (q1, .slice (some ⟨w2.heap.size, 0, none⟩) r2 r2))[j]? = some q → (w3.alloc (Obj.cells #[Value.int .i64 q1, Value.slice (some ⟨w2.heap.size, 0, none⟩) r2 r2] 93)).cell? ((⟨w3.heap.size, 0, none⟩ : Addr).add j) = some q := fun j q hq => by
            rw [Addr.add_lit, Nat.zero_add, World.cell?_alloc_at _ _ _ _ rfl]
            simpa [bkE] using hq
          have hFz : (w3.alloc (Obj.cells #[Value.int .i64 q1, Value.slice (some ⟨w2.heap.size, 0, none⟩) r2 r2] 93)).heap.size = w3.heap.size + 1 := by simp
          have HRF := hid hrF
          have HCL := hid hcl
          clear hrF hcl hbN
          have S4 : ∃ s, (w3.alloc (Obj.cells #[Value.int .i64 q1, Value.slice (some ⟨w2.heap.size, 0, none⟩) r2 r2] 93)).cell? ⟨cb, 2, none⟩ = some s := ⟨_, (Blk.kept CBD.out gb4 (by simp; omega)).cell 2⟩
          refine hK.out _ _ S4 (fun hS => ?_)
          clear hK K
          (try simp only [Act.put, List.getElem_toArray, List.getElem_cons_zero, List.getElem_cons_succ, List.setIfInBounds_toArray, List.set_cons_zero, List.set_cons_succ])
          refine wpAnyH_ready (rs := [11]) (by as_aux_lemma => kernel_rfl) (by simp) ?_
          refine AllReadyH.cons rfl (fun K hK => ?_) AllReadyH.nil
          rw [if_pos (by rfl)]
          have hoF := RowB.chg ROWD.out (Chg.one gb4) (.inr (by omega))
          obtain ⟨us, hus⟩ : ∃ us : List Bv, (w3.alloc (Obj.cells #[Value.int .i64 q1, Value.slice (some ⟨w2.heap.size, 0, none⟩) r2 r2] 93)).ownsRow w.heap.size 93 2 (.slice a2 bs2.length c2) bs2.length (us.flatMap bkE) := by
            obtain ⟨us, q1', q2', q3', q4'⟩ := hoF
            exact ⟨us, q1'.1.2⟩
          refine wp_append_own _ _ _ 24 rfl w.heap.size 93 i0 (.agg #[.int .i64 0, .slice none 0 0]) 2 32 Try.underlying24 hi' hz0 hz1 hz2 rfl (by decide) _ bs2.length (us.flatMap bkE) rfl hus ⟨w3.heap.size, 0, none⟩ 1 1 (bkE (q1, .slice (some ⟨w2.heap.size, 0, none⟩) r2 r2)) rfl rfl HCL.out (bkE_one q1 (some ⟨w2.heap.size, 0, none⟩) r2 r2) (by unfold maxLen; omega) (by omega) (by omega) ?_
          intro v7 w7 ho7 hg7 _
          have lo7 := World.ownsRow.lt hus
          have hsn := RowB.snoc (num := q1) bu_ne hoF HRF.out (by omega) (by omega) (by omega) (fun us' h' => by rw [ownsRow_same h' hus]; exact ho7) hg7
          have cbF := Blk.kept CBD.out gb4 (by simp; omega)
          have rbF := Blk.kept RBD.out gb4 (by simp; omega)
          have cb7 := Blk.kept cbF hg7 (Blk.not_row cbF (by decide) hus)
          have rb7 := Blk.kept rbF hg7 (Blk.not_row rbF (by decide) hus)
          have gw7 := grown_mix (grown_trans GD.out gb4) hg7 (fun j hj => (lo7 j hj).1)
          have hs7 := Src.kept sa4 hg7 (fun j hj => ⟨by have := (lo7 j hj).1; omega, by have := (lo7 j hj).1; omega⟩)
          obtain ⟨a7, c7, hv7, -, -⟩ := hsn.shape
          subst hv7
          have x2 := cb7.cell 2
          have xf2 := cb7.frozen 2
          simp at x2
          have hz7 := hg7.size
          refine hK.out _ _ ⟨_, x2⟩ (fun hS => ?_)
          clear hK K
          (try simp only [Act.put, List.getElem_toArray, List.getElem_cons_zero, List.getElem_cons_succ, List.setIfInBounds_toArray, List.set_cons_zero, List.set_cons_succ])
          refine wpAnyH_take (i := 12) (v := (.pointer (some ⟨cb, 2, none⟩))) rfl (by as_aux_lemma => kernel_rfl) (by as_aux_lemma => kernel_rfl) (by as_aux_lemma => kernel_rfl) (fun _ _ _ h => nomatch h.1) (Or.inl ⟨by kernel_rfl, ?_⟩) hS ?_
          · intro w hSw; (try dsimp only at hSw); go_simp
          simp only [Act.put, List.getElem_toArray, List.getElem_cons_zero, List.getElem_cons_succ, List.setIfInBounds_toArray, List.set_cons_zero, List.set_cons_succ]
          refine wpAnyH_ready (rs := [13]) (by as_aux_lemma => kernel_rfl) (by simp) ?_
          refine AllReadyH.cons rfl (fun K hK => ?_) AllReadyH.nil
          go_simp
          have cb8 := cb7.set (i := 2) (.slice a7 (bs2.length + 1) c7)
          have hg8 := set_grown w7 cb 2 (.slice a7 (bs2.length + 1) c7)
          refine hK.out _ _ ⟨_, cb8.cell 2⟩ (fun hS => ?_)
          clear hK K
          (try simp only [Act.put, List.getElem_toArray, List.getElem_cons_zero, List.getElem_cons_succ, List.setIfInBounds_toArray, List.set_cons_zero, List.set_cons_succ])
          refine wpAnyH_done (by kernel_rfl) ?_ _
          refine ⟨rfl, D.heap.size + 1, D.heap.size, w2.heap.size, w3.heap.size, q1, r2, a7, c7, ?_, hr2, by simpa using cb8, Blk.kept rb7 hg8 (by simp; omega), RowB.mono (RowB.apart hsn cb7 (by decide) (by decide) hg8) (Nat.le_refl _) hg8.size, ?_, ?_⟩
          · simp only [Act.put, List.getElem_toArray, List.getElem_cons_zero, List.getElem_cons_succ, List.setIfInBounds_toArray, List.set_cons_zero, List.set_cons_succ]
          · exact hs7.kept hg8 (fun j hj => by cases hj; exact ⟨by omega, by omega⟩)
          · exact grown_mix gw7 hg8 (fun j hj => by cases hj; omega)
      · skip
        go_simp
        have ga1 : D.grownBy (D.alloc (Obj.cells #[Value.int .i64 0, Value.int .i64 401, Value.int .i64 (-1)] 2)) (some b) := grown_none (World.grownBy_alloc _ _ none)
        have lit1 := lit_rd (k := .i64) (e := 2) D [0, 401, -1] 3 rfl (by simp [maxLen])
        have gb1 := grown_trans (World.grownBy.refl D (some b)) ga1
        have sa1 : Src (D.alloc (Obj.cells #[Value.int .i64 0, Value.int .i64 401, Value.int .i64 (-1)] 2)) B b T1 := Src.alloc HSD.out _
        have hza1 : D.heap.size ≤ D.heap.size := ((World.grownBy.refl D (some b))).size
        have hzb1 : (D.alloc (Obj.cells #[Value.int .i64 0, Value.int .i64 401, Value.int .i64 (-1)] 2)).heap.size = D.heap.size + 1 := by simp
        (try simp only [World.size_alloc] at lit1 hza1 hzb1)
        refine hK.out _ _ ⟨_, (Blk.kept CBD.out gb1 (by simp; omega)).cell 2⟩ (fun hS => ?_)
        clear hK K
        (try simp only [Act.put, List.getElem_toArray, List.getElem_cons_zero, List.getElem_cons_succ, List.setIfInBounds_toArray, List.set_cons_zero, List.set_cons_succ])
        refine wpAnyH_ready (rs := [1, 4, 6]) (by as_aux_lemma => kernel_rfl) (by simp) ?_
        refine AllReadyH.cons rfl (fun K hK => ?_) (AllReadyH.cons rfl (fun K hK => ?_) (AllReadyH.cons rfl (fun K hK => ?_) AllReadyH.nil))
        · skip
          have k2 : (D.alloc (Obj.cells #[Value.int .i64 0, Value.int .i64 401, Value.int .i64 (-1)] 2)).cell? ⟨cb, 2, none⟩ = some (.slice a2 bs2.length c2) := by have q := (Blk.kept CBD.out gb1 (by simp; omega)).cell 2; simpa using q
          go_simp
          refine hK.out _ _ hS (fun hS => ?_)
          clear hK K
          (try simp only [Act.put, List.getElem_toArray, List.getElem_cons_zero, List.getElem_cons_succ, List.setIfInBounds_toArray, List.set_cons_zero, List.set_cons_succ])
          clear k2
          refine wpAnyH_ready (rs := [4, 6]) (by as_aux_lemma => kernel_rfl) (by simp) ?_
          refine AllReadyH.cons rfl (fun K hK => ?_) (AllReadyH.cons rfl (fun K hK => ?_) AllReadyH.nil)
          · skip
            go_simp
            refine (l1Pick_any B b T1 (D.heap.size) 3 [0, 401, -1] (D.alloc (Obj.cells #[Value.int .i64 0, Value.int .i64 401, Value.int .i64 (-1)] 2)) sa1 (by omega) rfl (by omega) (by omega) (by omega) lit1).mono ?_
            rintro e w1 ⟨q1, rfl, hq1, hs1, hg1⟩
            have gg1 := grown_trans gb1 hg1
            have hzg1 := gg1.size
            refine hK.out _ _ ⟨_, (Blk.kept CBD.out gg1 (by simp; omega)).cell 2⟩ (fun hS => ?_)
            clear hK K
            (try simp only [Act.put, List.getElem_toArray, List.getElem_cons_zero, List.getElem_cons_succ, List.setIfInBounds_toArray, List.set_cons_zero, List.set_cons_succ])
            refine wpAnyH_ready (rs := [6]) (by as_aux_lemma => kernel_rfl) (by simp) ?_
            refine AllReadyH.cons rfl (fun K hK => ?_) AllReadyH.nil
            go_simp
            have ga2 : w1.grownBy (w1.alloc (Obj.cells #[Value.int .i64 0, Value.int .i64 1, Value.int .i64 70] 2)) (some b) := grown_none (World.grownBy_alloc _ _ none)
            have lit2 := lit_rd (k := .i64) (e := 2) w1 [0, 1, 70] 3 rfl (by simp [maxLen])
            have gb2 := grown_trans gg1 ga2
            have sa2 : Src (w1.alloc (Obj.cells #[Value.int .i64 0, Value.int .i64 1, Value.int .i64 70] 2)) B b (T1 + 1) := Src.alloc hs1 _
            have hza2 : D.heap.size ≤ w1.heap.size := (gg1).size
            have hzb2 : (w1.alloc (Obj.cells #[Value.int .i64 0, Value.int .i64 1, Value.int .i64 70] 2)).heap.size = w1.heap.size + 1 := by simp
            (try simp only [World.size_alloc] at lit2 hza2 hzb2)
            refine hK.out _ _ ⟨_, (Blk.kept CBD.out gb2 (by simp; omega)).cell 2⟩ (fun hS => ?_)
            clear hK K
            (try simp only [Act.put, List.getElem_toArray, List.getElem_cons_zero, List.getElem_cons_succ, List.setIfInBounds_toArray, List.set_cons_zero, List.set_cons_succ])
            refine wpAnyH_ready (rs := [7]) (by as_aux_lemma => kernel_rfl) (by simp) ?_
            refine AllReadyH.cons rfl (fun K hK => ?_) AllReadyH.nil
            go_simp
            refine (l1Pick_any B b (T1 + 1) (w1.heap.size) 3 [0, 1, 70] (w1.alloc (Obj.cells #[Value.int .i64 0, Value.int .i64 1, Value.int .i64 70] 2)) sa2 (by omega) rfl (by omega) (by omega) (by omega) lit2).mono ?_
            rintro e w2 ⟨q2, rfl, hq2, hs2, hg2⟩
            have gg2 := grown_trans gb2 hg2
            have hzg2 := gg2.size
            obtain ⟨r2, rfl, hr2⟩ : ∃ r2 : Nat, q2 = (r2 : Int) ∧ r2 ≤ 70 := by simp at hq2; exact ⟨q2.toNat, by omega, by omega⟩
            refine hK.out _ _ ⟨_, (Blk.kept CBD.out gg2 (by simp; omega)).cell 2⟩ (fun hS => ?_)
            clear hK K
            (try simp only [Act.put, List.getElem_toArray, List.getElem_cons_zero, List.getElem_cons_succ, List.setIfInBounds_toArray, List.set_cons_zero, List.set_cons_succ])
            refine wpAnyH_ready (rs := [8]) (by as_aux_lemma => kernel_rfl) (by simp) ?_
            refine AllReadyH.cons rfl (fun K hK => ?_) AllReadyH.nil
            rw [if_pos (by rfl)]
            refine wp_make_rd _ _ 22 rfl .u8 w2.heap.size 5 j0 Try.underlying22 hj hj0 hj1 r2 rfl rfl (by rw [hj2]; omega) (by unfold maxLen; omega) (Nat.le_refl _) ?_
            intro w3 hm3 hg3 hz3e
            have hz3a : w2.heap.size + 1 ≤ w3.heap.size := by omega
            clear hz3e
            have gg3 := grown_trans gg2 (grown_none (row := some b) hg3)
            have hs3 := Src.kept hs2 hg3 (by simp)
            have hMz : D.heap.size ≤ w2.heap.size := (gg2).size
            refine hK.out _ _ ⟨_, (Blk.kept CBD.out gg3 (by simp; omega)).cell 2⟩ (fun hS => ?_)
            clear hK K
            (try simp only [Act.put, List.getElem_toArray, List.getElem_cons_zero, List.getElem_cons_succ, List.setIfInBounds_toArray, List.set_cons_zero, List.set_cons_succ])
            refine wpAnyH_take (i := 9) (v := (.agg #[.int .i64 q1, .slice (some ⟨w2.heap.size, 0, none⟩) r2 r2])) rfl (by as_aux_lemma => kernel_rfl) (by as_aux_lemma => kernel_rfl) (by as_aux_lemma => kernel_rfl) (fun _ _ _ h => nomatch h.1) (Or.inl ⟨by kernel_rfl, ?_⟩) hS ?_
            · intro w hSw; (try dsimp only at hSw); go_simp
            simp only [Act.put, List.getElem_toArray, List.getElem_cons_zero, List.getElem_cons_succ, List.setIfInBounds_toArray, List.set_cons_zero, List.set_cons_succ]
            refine wpAnyH_ready (rs := [10]) (by as_aux_lemma => kernel_rfl) (by simp) ?_
            refine AllReadyH.cons rfl (fun K hK => ?_) AllReadyH.nil
            go_simp
            have ga4 : w3.grownBy (w3.alloc (Obj.cells #[Value.int .i64 q1, Value.slice (some ⟨w2.heap.size, 0, none⟩) r2 r2] 93)) (some b) := grown_none (World.grownBy_alloc _ _ none)
            have gb4 := grown_trans gg3 ga4
            have sa4 : Src (w3.alloc (Obj.cells #[Value.int .i64 q1, Value.slice (some ⟨w2.heap.size, 0, none⟩) r2 r2] 93)) B b ((T1 + 1) + 1) := Src.alloc hs3 _
            have hbN : Below w3.heap.size w3 (w3.alloc (Obj.cells #[Value.int .i64 q1, Value.slice (some ⟨w2.heap.size, 0, none⟩) r2 r2] 93)) := (Below.refl _ _).alloc (Nat.le_refl _) _
            have hrF : RowI .u8 5 (w3.alloc (Obj.cells #[Value.int .i64 q1, Value.slice (some ⟨w2.heap.size, 0, none⟩) r2 r2] 93)) w2.heap.size w3.heap.size (.slice (some ⟨w2.heap.size, 0, none⟩) r2 r2) (List.replicate r2 (0 : Int)).length (List.replicate r2 0) := by rw [List.length_replicate]; exact RowI.below (RowI.of hm3) hbN
            have hcl : ∀ j q, (bkE (q1, .slice (some ⟨w2.heap.size, 0, none⟩) r2 r2))[j]? = some q → (w3.alloc (Obj.cells #[Value.int .i64 q1, Value.slice (some ⟨w2.heap.size, 0, none⟩) r2 r2] 93)).cell? ((⟨w3.heap.size, 0, none⟩ : Addr).add j) = some q := fun j q hq => by
              rw [Addr.add_lit, Nat.zero_add, World.cell?_alloc_at _ _ _ _ rfl]
              simpa [bkE] using hq
            have hFz : (w3.alloc (Obj.cells #[Value.int .i64 q1, Value.slice (some ⟨w2.heap.size, 0, none⟩) r2 r2] 93)).heap.size = w3.heap.size + 1 := by simp
            have HRF := hid hrF
            have HCL := hid hcl
            clear hrF hcl hbN
            have S4 : ∃ s, (w3.alloc (Obj.cells #[Value.int .i64 q1, Value.slice (some ⟨w2.heap.size, 0, none⟩) r2 r2] 93)).cell? ⟨cb, 2, none⟩ = some s := ⟨_, (Blk.kept CBD.out gb4 (by simp; omega)).cell 2⟩
            refine hK.out _ _ S4 (fun hS => ?_)
            clear hK K
            (try simp only [Act.put, List.getElem_toArray, List.getElem_cons_zero, List.getElem_cons_succ, List.setIfInBounds_toArray, List.set_cons_zero, List.set_cons_succ])
            refine wpAnyH_ready (rs := [11]) (by as_aux_lemma => kernel_rfl) (by simp) ?_
            refine AllReadyH.cons rfl (fun K hK => ?_) AllReadyH.nil
            rw [if_pos (by rfl)]
            have hoF := RowB.chg ROWD.out (Chg.one gb4) (.inr (by omega))
            obtain ⟨us, hus⟩ : ∃ us : List Bv, (w3.alloc (Obj.cells #[Value.int .i64 q1, Value.slice (some ⟨w2.heap.size, 0, none⟩) r2 r2] 93)).ownsRow w.heap.size 93 2 (.slice a2 bs2.length c2) bs2.length (us.flatMap bkE) := by
              obtain ⟨us, q1', q2', q3', q4'⟩ := hoF
              exact ⟨us, q1'.1.2⟩
            refine wp_append_own _ _ _ 24 rfl w.heap.size 93 i0 (.agg #[.int .i64 0, .slice none 0 0]) 2 32 Try.underlying24 hi' hz0 hz1 hz2 rfl (by decide) _ bs2.length (us.flatMap bkE) rfl hus ⟨w3.heap.size, 0, none⟩ 1 1 (bkE (q1, .slice (some ⟨w2.heap.size, 0, none⟩) r2 r2)) rfl rfl HCL.out (bkE_one q1 (some ⟨w2.heap.size, 0, none⟩) r2 r2) (by unfold maxLen; omega) (by omega) (by omega) ?_
            intro v7 w7 ho7 hg7 _
            have lo7 := World.ownsRow.lt hus
            have hsn := RowB.snoc (num := q1) bu_ne hoF HRF.out (by omega) (by omega) (by omega) (fun us' h' => by rw [ownsRow_same h' hus]; exact ho7) hg7
            have cbF := Blk.kept CBD.out gb4 (by simp; omega)
            have rbF := Blk.kept RBD.out gb4 (by simp; omega)
            have cb7 := Blk.kept cbF hg7 (Blk.not_row cbF (by decide) hus)
            have rb7 := Blk.kept rbF hg7 (Blk.not_row rbF (by decide) hus)
            have gw7 := grown_mix (grown_trans GD.out gb4) hg7 (fun j hj => (lo7 j hj).1)
            have hs7 := Src.kept sa4 hg7 (fun j hj => ⟨by have := (lo7 j hj).1; omega, by have := (lo7 j hj).1; omega⟩)
            obtain ⟨a7, c7, hv7, -, -⟩ := hsn.shape
            subst hv7
            have x2 := cb7.cell 2
            have xf2 := cb7.frozen 2
            simp at x2
            have hz7 := hg7.size
            refine hK.out _ _ ⟨_, x2⟩ (fun hS => ?_)
            clear hK K
            (try simp only [Act.put, List.getElem_toArray, List.getElem_cons_zero, List.getElem_cons_succ, List.setIfInBounds_toArray, List.set_cons_zero, List.set_cons_succ])
            refine wpAnyH_take (i := 12) (v := (.pointer (some ⟨cb, 2, none⟩))) rfl (by as_aux_lemma => kernel_rfl) (by as_aux_lemma => kernel_rfl) (by as_aux_lemma => kernel_rfl) (fun _ _ _ h => nomatch h.1) (Or.inl ⟨by kernel_rfl, ?_⟩) hS ?_
            · intro w hSw; (try dsimp only at hSw); go_simp
            simp only [Act.put, List.getElem_toArray, List.getElem_cons_zero, List.getElem_cons_succ, List.setIfInBounds_toArray, List.set_cons_zero, List.set_cons_succ]
            refine wpAnyH_ready (rs := [13]) (by as_aux_lemma => kernel_rfl) (by simp) ?_
            refine AllReadyH.cons rfl (fun K hK => ?_) AllReadyH.nil
            go_simp
            have cb8 := cb7.set (i := 2) (.slice a7 (bs2.length + 1) c7)
            have hg8 := set_grown w7 cb 2 (.slice a7 (bs2.length + 1) c7)
            refine hK.out _ _ ⟨_, cb8.cell 2⟩ (fun hS => ?_)
            clear hK K
            (try simp only [Act.put, List.getElem_toArray, List.getElem_cons_zero, List.getElem_cons_succ, List.setIfInBounds_toArray, List.set_cons_zero, List.set_cons_succ])
            refine wpAnyH_done (by kernel_rfl) ?_ _
            refine ⟨rfl, D.heap.size, w1.heap.size, w2.heap.size, w3.heap.size, q1, r2, a7, c7, ?_, hr2, by simpa using cb8, Blk.kept rb7 hg8 (by simp; omega), RowB.mono (RowB.apart hsn cb7 (by decide) (by decide) hg8) (Nat.le_refl _) hg8.size, ?_, ?_⟩
            · simp only [Act.put, List.getElem_toArray, List.getElem_cons_zero, List.getElem_cons_succ, List.setIfInBounds_toArray, List.set_cons_zero, List.set_cons_succ]
            · exact hs7.kept hg8 (fun j hj => by cases hj; exact ⟨by omega, by omega⟩)
            · exact grown_mix gw7 hg8 (fun j hj => by cases hj; omega)
          · skip
            go_simp
            have ga2 : (D.alloc (Obj.cells #[Value.int .i64 0, Value.int .i64 401, Value.int .i64 (-1)] 2)).grownBy ((D.alloc (Obj.cells #[Value.int .i64 0, Value.int .i64 401, Value.int .i64 (-1)] 2)).alloc (Obj.cells #[Value.int .i64 0, Value.int .i64 1, Value.int .i64 70] 2)) (some b) := grown_none (World.grownBy_alloc _ _ none)
            have lit1' := rd_kept lit1 ga2 (fun ad had => by cases had; simp; omega)
            have lit2 := lit_rd (k := .i64) (e := 2) (D.alloc (Obj.cells #[Value.int .i64 0, Value.int .i64 401, Value.int .i64 (-1)] 2)) [0, 1, 70] 3 rfl (by simp [maxLen])
            have gb2 := grown_trans gb1 ga2
            have sa2 : Src ((D.alloc (Obj.cells #[Value.int .i64 0, Value.int .i64 401, Value.int .i64 (-1)] 2)).alloc (Obj.cells #[Value.int .i64 0, Value.int .i64 1, Value.int .i64 70] 2)) B b T1 := Src.alloc sa1 _
            have hza2 : D.heap.size ≤ (D.alloc (Obj.cells #[Value.int .i64 0, Value.int .i64 401, Value.int .i64 (-1)] 2)).heap.size := (gb1).size
            have hzb2 : ((D.alloc (Obj.cells #[Value.int .i64 0, Value.int .i64 401, Value.int .i64 (-1)] 2)).alloc (Obj.cells #[Value.int .i64 0, Value.int .i64 1, Value.int .i64 70] 2)).heap.size = (D.alloc (Obj.cells #[Value.int .i64 0, Value.int .i64 401, Value.int .i64 (-1)] 2)).heap.size + 1 := by simp
            (try simp only [World.size_alloc] at lit2 hza2 hzb2)
            refine hK.out _ _ ⟨_, (Blk.kept CBD.out gb2 (by simp; omega)).cell 2⟩ (fun hS => ?_)
            clear hK K
            (try simp only [Act.put, List.getElem_toArray, List.getElem_cons_zero, List.getElem_cons_succ, List.setIfInBounds_toArray, List.set_cons_zero, List.set_cons_succ])
            refine wpAnyH_ready (rs := [4]) (by as_aux_lemma => kernel_rfl) (by simp) ?_
            refine AllReadyH.cons rfl (fun K hK => ?_) AllReadyH.nil
            go_simp
            refine (l1Pick_any B b T1 (D.heap.size) 3 [0, 401, -1] ((D.alloc (Obj.cells #[Value.int .i64 0, Value.int .i64 401, Value.int .i64 (-1)] 2)).alloc (Obj.cells #[Value.int .i64 0, Value.int .i64 1, Value.int .i64 70] 2)) sa2 (by omega) rfl (by omega) (by omega) (by omega) lit1').mono ?_
            rintro e w1 ⟨q1, rfl, hq1, hs1, hg1⟩
            have gg1 := grown_trans gb2 hg1
            have hzg1 := gg1.size
            have lit2' := rd_kept lit2 hg1 (fun ad had => by cases had; simp; omega)
            refine hK.out _ _ ⟨_, (Blk.kept CBD.out gg1 (by simp; omega)).cell 2⟩ (fun hS => ?_)
            clear hK K
            (try simp only [Act.put, List.getElem_toArray, List.getElem_cons_zero, List.getElem_cons_succ, List.setIfInBounds_toArray, List.set_cons_zero, List.set_cons_succ])
            refine wpAnyH_ready (rs := [7]) (by as_aux_lemma => kernel_rfl) (by simp) ?_
            refine AllReadyH.cons rfl (fun K hK => ?_) AllReadyH.nil
            go_simp
            refine (l1Pick_any B b (T1 + 1) (D.heap.size + 1) 3 [0, 1, 70] w1 hs1 (by omega) rfl (by omega) (by omega) (by omega) lit2').mono ?_
            rintro e w2 ⟨q2, rfl, hq2, hs2, hg2⟩
            have gg2 := grown_trans gg1 hg2
            have hzg2 := gg2.size
            obtain ⟨r2, rfl, hr2⟩ : ∃ r2 : Nat, q2 = (r2 : Int) ∧ r2 ≤ 70 := by simp at hq2; exact ⟨q2.toNat, by omega, by omega⟩
            refine hK.out _ _ ⟨_, (Blk.kept CBD.out gg2 (by simp; omega)).cell 2⟩ (fun hS => ?_)
            clear hK K
            (try simp only [Act.put, List.getElem_toArray, List.getElem_cons_zero, List.getElem_cons_succ, List.setIfInBounds_toArray, List.set_cons_zero, List.set_cons_succ])
            refine wpAnyH_ready (rs := [8]) (by as_aux_lemma => kernel_rfl) (by simp) ?_
            refine AllReadyH.cons rfl (fun K hK => ?_) AllReadyH.nil
            rw [if_pos (by rfl)]
            refine wp_make_rd _ _ 22 rfl .u8 w2.heap.size 5 j0 Try.underlying22 hj hj0 hj1 r2 rfl rfl (by rw [hj2]; omega) (by unfold maxLen; omega) (Nat.le_refl _) ?_
            intro w3 hm3 hg3 hz3e
            have hz3a : w2.heap.size + 1 ≤ w3.heap.size := by omega
            clear hz3e
            have gg3 := grown_trans gg2 (grown_none (row := some b) hg3)
            have hs3 := Src.kept hs2 hg3 (by simp)
            have hMz : D.heap.size ≤ w2.heap.size := (gg2).size
            refine hK.out _ _ ⟨_, (Blk.kept CBD.out gg3 (by simp; omega)).cell 2⟩ (fun hS => ?_)
            clear hK K
            (try simp only [Act.put, List.getElem_toArray, List.getElem_cons_zero, List.getElem_cons_succ, List.setIfInBounds_toArray, List.set_cons_zero, List.set_cons_succ])
            refine wpAnyH_take (i := 9) (v := (.agg #[.int .i64 q1, .slice (some ⟨w2.heap.size, 0, none⟩) r2 r2])) rfl (by as_aux_lemma => kernel_rfl) (by as_aux_lemma => kernel_rfl) (by as_aux_lemma => kernel_rfl) (fun _ _ _ h => nomatch h.1) (Or.inl ⟨by kernel_rfl, ?_⟩) hS ?_
            · intro w hSw; (try dsimp only at hSw); go_simp
            simp only [Act.put, List.getElem_toArray, List.getElem_cons_zero, List.getElem_cons_succ, List.setIfInBounds_toArray, List.set_cons_zero, List.set_cons_succ]
            refine wpAnyH_ready (rs := [10]) (by as_aux_lemma => kernel_rfl) (by simp) ?_
            refine AllReadyH.cons rfl (fun K hK => ?_) AllReadyH.nil
            go_simp
            have ga4 : w3.grownBy (w3.alloc (Obj.cells #[Value.int .i64 q1, Value.slice (some ⟨w2.heap.size, 0, none⟩) r2 r2] 93)) (some b) := grown_none (World.grownBy_alloc _ _ none)
            have gb4 := grown_trans gg3 ga4
            have sa4 : Src (w3.alloc (Obj.cells #[Value.int .i64 q1, Value.slice (some ⟨w2.heap.size, 0, none⟩) r2 r2] 93)) B b ((T1 + 1) + 1) := Src.alloc hs3 _
            have hbN : Below w3.heap.size w3 (w3.alloc (Obj.cells #[Value.int .i64 q1, Value.slice (some ⟨w2.heap.size, 0, none⟩) r2 r2] 93)) := (Below.refl _ _).alloc (Nat.le_refl _) _
            have hrF : RowI .u8 5 (w3.alloc (Obj.cells #[Value.int .i64 q1, Value.slice (some ⟨w2.heap.size, 0, none⟩) r2 r2] 93)) w2.heap.size w3.heap.size (.slice (some ⟨w2.heap.size, 0, none⟩) r2 r2) (List.replicate r2 (0 : Int)).length (List.replicate r2 0) := by rw [List.length_replicate]; exact RowI.below (RowI.of hm3) hbN
            have hcl : ∀ j q, (bkE (q1, .slice (some ⟨w2.heap.size, 0, none⟩) r2 r2))[j]? = some q → (w3.alloc (Obj.cells #[Value.int .i64 q1, Value.slice (some ⟨w2.heap.size, 0, none⟩) r2 r2] 93)).cell? ((⟨w3.heap.size, 0, none⟩ : Addr).add j) = some q := fun j q hq => by
              rw [Addr.add_lit, Nat.zero_add, World.cell?_alloc_at _ _ _ _ rfl]
              simpa [bkE] using hq
            have hFz : (w3.alloc (Obj.cells #[Value.int .i64 q1, Value.slice (some ⟨w2.heap.size, 0, none⟩) r2 r2] 93)).heap.size = w3.heap.size + 1 := by simp
            have HRF := hid hrF
            have HCL := hid hcl
            clear hrF hcl hbN
            have S4 : ∃ s, (w3.alloc (Obj.cells #[Value.int .i64 q1, Value.slice (some ⟨w2.heap.size, 0, none⟩) r2 r2] 93)).cell? ⟨cb, 2, none⟩ = some s := ⟨_, (Blk.kept CBD.out gb4 (by simp; omega)).cell 2⟩
            refine hK.out _ _ S4 (fun hS => ?_)
            clear hK K
            (try simp only [Act.put, List.getElem_toArray, List.getElem_cons_zero, List.getElem_cons_succ, List.setIfInBounds_toArray, List.set_cons_zero, List.set_cons_succ])
            refine wpAnyH_ready (rs := [11]) (by as_aux_lemma => kernel_rfl) (by simp) ?_
            refine AllReadyH.cons rfl (fun K hK => ?_) AllReadyH.nil
            rw [if_pos (by rfl)]
            have hoF := RowB.chg ROWD.out (Chg.one gb4) (.inr (by omega))
            obtain ⟨us, hus⟩ : ∃ us : List Bv, (w3.alloc (Obj.cells #[Value.int .i64 q1, Value.slice (some ⟨w2.heap.size, 0, none⟩) r2 r2] 93)).ownsRow w.heap.size 93 2 (.slice a2 bs2.length c2) bs2.length (us.flatMap bkE) := by
              obtain ⟨us, q1', q2', q3', q4'⟩ := hoF
              exact ⟨us, q1'.1.2⟩
            refine wp_append_own _ _ _ 24 rfl w.heap.size 93 i0 (.agg #[.int .i64 0, .slice none 0 0]) 2 32 Try.underlying24 hi' hz0 hz1 hz2 rfl (by decide) _ bs2.length (us.flatMap bkE) rfl hus ⟨w3.heap.size, 0, none⟩ 1 1 (bkE (q1, .slice (some ⟨w2.heap.size, 0, none⟩) r2 r2)) rfl rfl HCL.out (bkE_one q1 (some ⟨w2.heap.size, 0, none⟩) r2 r2) (by unfold maxLen; omega) (by omega) (by omega) ?_
            intro v7 w7 ho7 hg7 _
            have lo7 := World.ownsRow.lt hus
            have hsn := RowB.snoc (num := q1) bu_ne hoF HRF.out (by omega) (by omega) (by omega) (fun us' h' => by rw [ownsRow_same h' hus]; exact ho7) hg7
            have cbF := Blk.kept CBD.out gb4 (by simp; omega)
            have rbF := Blk.kept RBD.out gb4 (by simp; omega)
            have cb7 := Blk.kept cbF hg7 (Blk.not_row cbF (by decide) hus)
            have rb7 := Blk.kept rbF hg7 (Blk.not_row rbF (by decide) hus)
            have gw7 := grown_mix (grown_trans GD.out gb4) hg7 (fun j hj => (lo7 j hj).1)
            have hs7 := Src.kept sa4 hg7 (fun j hj => ⟨by have := (lo7 j hj).1; omega, by have := (lo7 j hj).1; omega⟩)
            obtain ⟨a7, c7, hv7, -, -⟩ := hsn.shape
            subst hv7
            have x2 := cb7.cell 2
            have xf2 := cb7.frozen 2
            simp at x2
            have hz7 := hg7.size
            refine hK.out _ _ ⟨_, x2⟩ (fun hS => ?_)
            clear hK K
            (try simp only [Act.put, List.getElem_toArray, List.getElem_cons_zero, List.getElem_cons_succ, List.setIfInBounds_toArray, List.set_cons_zero, List.set_cons_succ])
            refine wpAnyH_take (i := 12) (v := (.pointer (some ⟨cb, 2, none⟩))) rfl (by as_aux_lemma => kernel_rfl) (by as_aux_lemma => kernel_rfl) (by as_aux_lemma => kernel_rfl) (fun _ _ _ h => nomatch h.1) (Or.inl ⟨by kernel_rfl, ?_⟩) hS ?_
            · intro w hSw; (try dsimp only at hSw); go_simp
            simp only [Act.put, List.getElem_toArray, List.getElem_cons_zero, List.getElem_cons_succ, List.setIfInBounds_toArray, List.set_cons_zero, List.set_cons_succ]
            refine wpAnyH_ready (rs := [13]) (by as_aux_lemma => kernel_rfl) (by simp) ?_
            refine AllReadyH.cons rfl (fun K hK => ?_) AllReadyH.nil
            go_simp
            have cb8 := cb7.set (i := 2) (.slice a7 (bs2.length + 1) c7)
            have hg8 := set_grown w7 cb 2 (.slice a7 (bs2.length + 1) c7)
            refine hK.out _ _ ⟨_, cb8.cell 2⟩ (fun hS => ?_)
            clear hK K
            (try simp only [Act.put, List.getElem_toArray, List.getElem_cons_zero, List.getElem_cons_succ, List.setIfInBounds_toArray, List.set_cons_zero, List.set_cons_succ])
            refine wpAnyH_done (by kernel_rfl) ?_ _
            refine ⟨rfl, D.heap.size, D.heap.size + 1, w2.heap.size, w3.heap.size, q1, r2, a7, c7, ?_, hr2, by simpa using cb8, Blk.kept rb7 hg8 (by simp; omega), RowB.mono (RowB.apart hsn cb7 (by decide) (by decide) hg8) (Nat.le_refl _) hg8.size, ?_, ?_⟩
            · simp only [Act.put, List.getElem_toArray, List.getElem_cons_zero, List.getElem_cons_succ, List.setIfInBounds_toArray, List.set_cons_zero, List.set_cons_succ]
            · exact hs7.kept hg8 (fun j hj => by cases hj; exact ⟨by omega, by omega⟩)
            · exact grown_mix gw7 hg8 (fun j hj => by cases hj; omega)
        · skip
          go_simp
          refine (l1Pick_any B b T1 (D.heap.size) 3 [0, 401, -1] (D.alloc (Obj.cells #[Value.int .i64 0, Value.int .i64 401, Value.int .i64 (-1)] 2)) sa1 (by omega) rfl (by omega) (by omega) (by omega) lit1).mono ?_
          rintro e w1 ⟨q1, rfl, hq1, hs1, hg1⟩
          have gg1 := grown_trans gb1 hg1
          have hzg1 := gg1.size
          refine hK.out _ _ ⟨_, (Blk.kept CBD.out gg1 (by simp; omega)).cell 2⟩ (fun hS => ?_)
          clear hK K
          (try simp only [Act.put, List.getElem_toArray, List.getElem_cons_zero, List.getElem_cons_succ, List.setIfInBounds_toArray, List.set_cons_zero, List.set_cons_succ])
          refine wpAnyH_ready (rs := [1, 6]) (by as_aux_lemma => kernel_rfl) (by simp) ?_
          refine AllReadyH.cons rfl (fun K hK => ?_) (AllReadyH.cons rfl (fun K hK => ?_) AllReadyH.nil)
          · skip
            have k2 : w1.cell? ⟨cb, 2, none⟩ = some (.slice a2 bs2.length c2) := by have q := (Blk.kept CBD.out gg1 (by simp; omega)).cell 2; simpa using q
            go_simp
            refine hK.out _ _ hS (fun hS => ?_)
            clear hK K
            (try simp only [Act.put, List.getElem_toArray, List.getElem_cons_zero, List.getElem_cons_succ, List.setIfInBounds_toArray, List.set_cons_zero, List.set_cons_succ])
            clear k2
            refine wpAnyH_ready (rs := [6]) (by as_aux_lemma => kernel_rfl) (by simp) ?_
            refine AllReadyH.cons rfl (fun K hK => ?_) AllReadyH.nil
            go_simp
            have ga2 : w1.grownBy (w1.alloc (Obj.cells #[Value.int .i64 0, Value.int .i64 1, Value.int .i64 70] 2)) (some b) := grown_none (World.grownBy_alloc _ _ none)
            have lit2 := lit_rd (k := .i64) (e := 2) w1 [0, 1, 70] 3 rfl (by simp [maxLen])
            have gb2 := grown_trans gg1 ga2
            have sa2 : Src (w1.alloc (Obj.cells #[Value.int .i64 0, Value.int .i64 1, Value.int .i64 70] 2)) B b (T1 + 1) := Src.alloc hs1 _
            have hza2 : D.heap.size ≤ w1.heap.size := (gg1).size
            have hzb2 : (w1.alloc (Obj.cells #[Value.int .i64 0, Value.int .i64 1, Value.int .i64 70] 2)).heap.size = w1.heap.size + 1 := by simp
            (try simp only [World.size_alloc] at lit2 hza2 hzb2)
            refine hK.out _ _ ⟨_, (Blk.kept CBD.out gb2 (by simp; omega)).cell 2⟩ (fun hS => ?_)
            clear hK K
            (try simp only [Act.put, List.getElem_toArray, List.getElem_cons_zero, List.getElem_cons_succ, List.setIfInBounds_toArray, List.set_cons_zero, List.set_cons_succ])
            refine wpAnyH_ready (rs := [7]) (by as_aux_lemma => kernel_rfl) (by simp) ?_
            refine AllReadyH.cons rfl (fun K hK => ?_) AllReadyH.nil
            go_simp
            refine (l1Pick_any B b (T1 + 1) (w1.heap.size) 3 [0, 1, 70] (w1.alloc (Obj.cells #[Value.int .i64 0, Value.int .i64 1, Value.int .i64 70] 2)) sa2 (by omega) rfl (by omega) (by omega) (by omega) lit2).mono ?_
            rintro e w2 ⟨q2, rfl, hq2, hs2, hg2⟩
            have gg2 := grown_trans gb2 hg2
            have hzg2 := gg2.size
            obtain ⟨r2, rfl, hr2⟩ : ∃ r2 : Nat, q2 = (r2 : Int) ∧ r2 ≤ 70 := by simp at hq2; exact ⟨q2.toNat, by omega, by omega⟩
            refine hK.out _ _ ⟨_, (Blk.kept CBD.out gg2 (by simp; omega)).cell 2⟩ (fun hS => ?_)
            clear hK K
            (try simp only [Act.put, List.getElem_toArray, List.getElem_cons_zero, List.getElem_cons_succ, List.setIfInBounds_toArray, List.set_cons_zero, List.set_cons_succ])
            refine wpAnyH_ready (rs := [8]) (by as_aux_lemma => kernel_rfl) (by simp) ?_
            refine AllReadyH.cons rfl (fun K hK => ?_) AllReadyH.nil
            rw [if_pos (by rfl)]
            refine wp_make_rd _ _ 22 rfl .u8 w2.heap.size 5 j0 Try.underlying22 hj hj0 hj1 r2 rfl rfl (by rw [hj2]; omega) (by unfold maxLen; omega) (Nat.le_refl _) ?_
            intro w3 hm3 hg3 hz3e
            have hz3a : w2.heap.size + 1 ≤ w3.heap.size := by omega
            clear hz3e
            have gg3 := grown_trans gg2 (grown_none (row := some b) hg3)
            have hs3 := Src.kept hs2 hg3 (by simp)
            have hMz : D.heap.size ≤ w2.heap.size := (gg2).size
            refine hK.out _ _ ⟨_, (Blk.kept CBD.out gg3 (by simp; omega)).cell 2⟩ (fun hS => ?_)
            clear hK K
            (try simp only [Act.put, List.getElem_toArray, List.getElem_cons_zero, List.getElem_cons_succ, List.setIfInBounds_toArray, List.set_cons_zero, List.set_cons_succ])
            refine wpAnyH_take (i := 9) (v := (.agg #[.int .i64 q1, .slice (some ⟨w2.heap.size, 0, none⟩) r2 r2])) rfl (by as_aux_lemma => kernel_rfl) (by as_aux_lemma => kernel_rfl) (by as_aux_lemma => kernel_rfl) (fun _ _ _ h => nomatch h.1) (Or.inl ⟨by kernel_rfl, ?_⟩) hS ?_
            · intro w hSw; (try dsimp only at hSw); go_simp
            simp only [Act.put, List.getElem_toArray, List.getElem_cons_zero, List.getElem_cons_succ, List.setIfInBounds_toArray, List.set_cons_zero, List.set_cons_succ]
            refine wpAnyH_ready (rs := [10]) (by as_aux_lemma => kernel_rfl) (by simp) ?_
            refine AllReadyH.cons rfl (fun K hK => ?_) AllReadyH.nil
            go_simp
            have ga4 : w3.grownBy (w3.alloc (Obj.cells #[Value.int .i64 q1, Value.slice (some ⟨w2.heap.size, 0, none⟩) r2 r2] 93)) (some b) := grown_none (World.grownBy_alloc _ _ none)
            have gb4 := grown_trans gg3 ga4
            have sa4 : Src (w3.alloc (Obj.cells #[Value.int .i64 q1, Value.slice (some ⟨w2.heap.size, 0, none⟩) r2 r2] 93)) B b ((T1 + 1) + 1) := Src.alloc hs3 _
            have hbN : Below w3.heap.size w3 (w3.alloc (Obj.cells #[Value.int .i64 q1, Value.slice (some ⟨w2.heap.size, 0, none⟩) r2 r2] 93)) := (Below.refl _ _).alloc (Nat.le_refl _) _
            have hrF : RowI .u8 5 (w3.alloc (Obj.cells #[Value.int .i64 q1, Value.slice (some ⟨w2.heap.size, 0, none⟩) r2 r2] 93)) w2.heap.size w3.heap.size (.slice (some ⟨w2.heap.size, 0, none⟩) r2 r2) (List.replicate r2 (0 : Int)).length (List.replicate r2 0) := by rw [List.length_replicate]; exact RowI.below (RowI.of hm3) hbN
            have hcl : ∀ j q, (bkE (q1, .slice (some ⟨w2.heap.size, 0, none⟩) r2 r2))[j]? = some q → (w3.alloc (Obj.cells #[Value.int .i64 q1, Value.slice (some ⟨w2.heap.size, 0, none⟩) r2 r2] 93)).cell? ((⟨w3.heap.size, 0, none⟩ : Addr).add j) = some q := fun j q hq => by
              rw [Addr.add_lit, Nat.zero_add, World.cell?_alloc_at _ _ _ _ rfl]
              simpa [bkE] using hq
            have hFz : (w3.alloc (Obj.cells #[Value.int .i64 q1, Value.slice (some ⟨w2.heap.size, 0, none⟩) r2 r2] 93)).heap.size = w3.heap.size + 1 := by simp
            have HRF := hid hrF
            have HCL := hid hcl
            clear hrF hcl hbN
            have S4 : ∃ s, (w3.alloc (Obj.cells #[Value.int .i64 q1, Value.slice (some ⟨w2.heap.size, 0, none⟩) r2 r2] 93)).cell? ⟨cb, 2, none⟩ = some s := ⟨_, (Blk.kept CBD.out gb4 (by simp; omega)).cell 2⟩
            refine hK.out _ _ S4 (fun hS => ?_)
            clear hK K
            (try simp only [Act.put, List.getElem_toArray, List.getElem_cons_zero, List.getElem_cons_succ, List.setIfInBounds_toArray, List.set_cons_zero, List.set_cons_succ])
            refine wpAnyH_ready (rs := [11]) (by as_aux_lemma => kernel_rfl) (by simp) ?_
            refine AllReadyH.cons rfl (fun K hK => ?_) AllReadyH.nil
            rw [if_pos (by rfl)]
            have hoF := RowB.chg ROWD.out (Chg.one gb4) (.inr (by omega))
            obtain ⟨us, hus⟩ : ∃ us : List Bv, (w3.alloc (Obj.cells #[Value.int .i64 q1, Value.slice (some ⟨w2.heap.size, 0, none⟩) r2 r2] 93)).ownsRow w.heap.size 93 2 (.slice a2 bs2.length c2) bs2.length (us.flatMap bkE) := by
              obtain ⟨us, q1', q2', q3', q4'⟩ := hoF
              exact ⟨us, q1'.1.2⟩
            refine wp_append_own _ _ _ 24 rfl w.heap.size 93 i0 (.agg #[.int .i64 0, .slice none 0 0]) 2 32 Try.underlying24 hi' hz0 hz1 hz2 rfl (by decide) _ bs2.length (us.flatMap bkE) rfl hus ⟨w3.heap.size, 0, none⟩ 1 1 (bkE (q1, .slice (some ⟨w2.heap.size, 0, none⟩) r2 r2)) rfl rfl HCL.out (bkE_one q1 (some ⟨w2.heap.size, 0, none⟩) r2 r2) (by unfold maxLen; omega) (by omega) (by omega) ?_
            intro v7 w7 ho7 hg7 _
            have lo7 := World.ownsRow.lt hus
            have hsn := RowB.snoc (num := q1) bu_ne hoF HRF.out (by omega) (by omega) (by omega) (fun us' h' => by rw [ownsRow_same h' hus]; exact ho7) hg7
            have cbF := Blk.kept CBD.out gb4 (by simp; omega)
            have rbF := Blk.kept RBD.out gb4 (by simp; omega)
            have cb7 := Blk.kept cbF hg7 (Blk.not_row cbF (by decide) hus)
            have rb7 := Blk.kept rbF hg7 (Blk.not_row rbF (by decide) hus)
            have gw7 := grown_mix (grown_trans GD.out gb4) hg7 (fun j hj => (lo7 j hj).1)
            have hs7 := Src.kept sa4 hg7 (fun j hj => ⟨by have := (lo7 j hj).1; omega, by have := (lo7 j hj).1; omega⟩)
            obtain ⟨a7, c7, hv7, -, -⟩ := hsn.shape
            subst hv7
            have x2 := cb7.cell 2
            have xf2 := cb7.frozen 2
            simp at x2
            have hz7 := hg7.size
            refine hK.out _ _ ⟨_, x2⟩ (fun hS => ?_)
            clear hK K
            (try simp only [Act.put, List.getElem_toArray, List.getElem_cons_zero, List.getElem_cons_succ, List.setIfInBounds_toArray, List.set_cons_zero, List.set_cons_succ])
            refine wpAnyH_take (i := 12) (v := (.pointer (some ⟨cb, 2, none⟩))) rfl (by as_aux_lemma => kernel_rfl) (by as_aux_lemma => kernel_rfl) (by as_aux_lemma => kernel_rfl) (fun _ _ _ h => nomatch h.1) (Or.inl ⟨by kernel_rfl, ?_⟩) hS ?_
            · intro w hSw; (try dsimp only at hSw); go_simp
            simp only [Act.put, List.getElem_toArray, List.getElem_cons_zero, List.getElem_cons_succ, List.setIfInBounds_toArray, List.set_cons_zero, List.set_cons_succ]
            refine wpAnyH_ready (rs := [13]) (by as_aux_lemma => kernel_rfl) (by simp) ?_
            refine AllReadyH.cons rfl (fun K hK => ?_) AllReadyH.nil
            go_simp
            have cb8 := cb7.set (i := 2) (.slice a7 (bs2.length + 1) c7)
            have hg8 := set_grown w7 cb 2 (.slice a7 (bs2.length + 1) c7)
            refine hK.out _ _ ⟨_, cb8.cell 2⟩ (fun hS => ?_)
            clear hK K
            (try simp only [Act.put, List.getElem_toArray, List.getElem_cons_zero, List.getElem_cons_succ, List.setIfInBounds_toArray, List.set_cons_zero, List.set_cons_succ])
            refine wpAnyH_done (by kernel_rfl) ?_ _
            refine ⟨rfl, D.heap.size, w1.heap.size, w2.heap.size, w3.heap.size, q1, r2, a7, c7, ?_, hr2, by simpa using cb8, Blk.kept rb7 hg8 (by simp; omega), RowB.mono (RowB.apart hsn cb7 (by decide) (by decide) hg8) (Nat.le_refl _) hg8.size, ?_, ?_⟩
            · simp only [Act.put, List.getElem_toArray, List.getElem_cons_zero, List.getElem_cons_succ, List.setIfInBounds_toArray, List.set_cons_zero, List.set_cons_succ]
            · exact hs7.kept hg8 (fun j hj => by cases hj; exact ⟨by omega, by omega⟩)
            · exact grown_mix gw7 hg8 (fun j hj => by cases hj; omega)
          · skip
            go_simp
            have ga2 : w1.grownBy (w1.alloc (Obj.cells #[Value.int .i64 0, Value.int .i64 1, Value.int .i64 70] 2)) (some b) := grown_none (World.grownBy_alloc _ _ none)
            have lit2 := lit_rd (k := .i64) (e := 2) w1 [0, 1, 70] 3 rfl (by simp [maxLen])
            have gb2 := grown_trans gg1 ga2
            have sa2 : Src (w1.alloc (Obj.cells #[Value.int .i64 0, Value.int .i64 1, Value.int .i64 70] 2)) B b (T1 + 1) := Src.alloc hs1 _
            have hza2 : D.heap.size ≤ w1.heap.size := (gg1).size
            have hzb2 : (w1.alloc (Obj.cells #[Value.int .i64 0, Value.int .i64 1, Value.int .i64 70] 2)).heap.size = w1.heap.size + 1 := by simp
            (try simp only [World.size_alloc] at lit2 hza2 hzb2)
            refine hK.out _ _ ⟨_, (Blk.kept CBD.out gb2 (by simp; omega)).cell 2⟩ (fun hS => ?_)
            clear hK K
            (try simp only [Act.put, List.getElem_toArray, List.getElem_cons_zero, List.getElem_cons_succ, List.setIfInBounds_toArray, List.set_cons_zero, List.set_cons_succ])
            refine wpAnyH_ready (rs := [1, 7]) (by as_aux_lemma => kernel_rfl) (by simp) ?_
            refine AllReadyH.cons rfl (fun K hK => ?_) (AllReadyH.cons rfl (fun K hK => ?_) AllReadyH.nil)
            · skip
              have k2 : (w1.alloc (Obj.cells #[Value.int .i64 0, Value.int .i64 1, Value.int .i64 70] 2)).cell? ⟨cb, 2, none⟩ = some (.slice a2 bs2.length c2) := by have q := (Blk.kept CBD.out gb2 (by simp; omega)).cell 2; simpa using q
              go_simp
              refine hK.out _ _ hS (fun hS => ?_)
              clear hK K
              (try simp only [Act.put, List.getElem_toArray, List.getElem_cons_zero, List.getElem_cons_succ, List.setIfInBounds_toArray, List.set_cons_zero, List.set_cons_succ])
              clear k2
              refine wpAnyH_ready (rs := [7]) (by as_aux_lemma => kernel_rfl) (by simp) ?_
              refine AllReadyH.cons rfl (fun K hK => ?_) AllReadyH.nil
              go_simp
              refine (l1Pick_any B b (T1 + 1) (w1.heap.size) 3 [0, 1, 70] (w1.alloc (Obj.cells #[Value.int .i64 0, Value.int .i64 1, Value.int .i64 70] 2)) sa2 (by omega) rfl (by omega) (by omega) (by omega) lit2).mono ?_
              rintro e w2 ⟨q2, rfl, hq2, hs2, hg2⟩
              have gg2 := grown_trans gb2 hg2
              have hzg2 := gg2.size
              obtain ⟨r2, rfl, hr2⟩ : ∃ r2 : Nat, q2 = (r2 : Int) ∧ r2 ≤ 70 := by simp at hq2; exact ⟨q2.toNat, by omega, by omega⟩
              refine hK.out _ _ ⟨_, (Blk.kept CBD.out gg2 (by simp; omega)).cell 2⟩ (fun hS => ?_)
              clear hK K
              (try simp only [Act.put, List.getElem_toArray, List.getElem_cons_zero, List.getElem_cons_succ, List.setIfInBounds_toArray, List.set_cons_zero, List.set_cons_succ])
              refine wpAnyH_ready (rs := [8]) (by as_aux_lemma => kernel_rfl) (by simp) ?_
              refine AllReadyH.cons rfl (fun K hK => ?_) AllReadyH.nil
              rw [if_pos (by rfl)]
              refine wp_make_rd _ _ 22 rfl .u8 w2.heap.size 5 j0 Try.underlying22 hj hj0 hj1 r2 rfl rfl (by rw [hj2]; omega) (by unfold maxLen; omega) (Nat.le_refl _) ?_
              intro w3 hm3 hg3 hz3e
              have hz3a : w2.heap.size + 1 ≤ w3.heap.size := by omega
              clear hz3e
              have gg3 := grown_trans gg2 (grown_none (row := some b) hg3)
              have hs3 := Src.kept hs2 hg3 (by simp)
              have hMz : D.heap.size ≤ w2.heap.size := (gg2).size
              refine hK.out _ _ ⟨_, (Blk.kept CBD.out gg3 (by simp; omega)).cell 2⟩ (fun hS => ?_)
              clear hK K
              (try simp only [Act.put, List.getElem_toArray, List.getElem_cons_zero, List.getElem_cons_succ, List.setIfInBounds_toArray, List.set_cons_zero, List.set_cons_succ])
              refine wpAnyH_take (i := 9) (v := (.agg #[.int .i64 q1, .slice (some ⟨w2.heap.size, 0, none⟩) r2 r2])) rfl (by as_aux_lemma => kernel_rfl) (by as_aux_lemma => kernel_rfl) (by as_aux_lemma => kernel_rfl) (fun _ _ _ h => nomatch h.1) (Or.inl ⟨by kernel_rfl, ?_⟩) hS ?_
              · intro w hSw; (try dsimp only at hSw); go_simp
              simp only [Act.put, List.getElem_toArray, List.getElem_cons_zero, List.getElem_cons_succ, List.setIfInBounds_toArray, List.set_cons_zero, List.set_cons_succ]
              refine wpAnyH_ready (rs := [10]) (by as_aux_lemma => kernel_rfl) (by simp) ?_
              refine AllReadyH.cons rfl (fun K hK => ?_) AllReadyH.nil
              go_simp
              have ga4 : w3.grownBy (w3.alloc (Obj.cells #[Value.int .i64 q1, Value.slice (some ⟨w2.heap.size, 0, none⟩) r2 r2] 93)) (some b) := grown_none (World.grownBy_alloc _ _ none)
              have gb4 := grown_trans gg3 ga4
              have sa4 : Src (w3.alloc (Obj.cells #[Value.int .i64 q1, Value.slice (some ⟨w2.heap.size, 0, none⟩) r2 r2] 93)) B b ((T1 + 1) + 1) := Src.alloc hs3 _
              have hbN : Below w3.heap.size w3 (w3.alloc (Obj.cells #[Value.int .i64 q1, Value.slice (some ⟨w2.heap.size, 0, none⟩) r2 r2] 93)) := (Below.refl _ _).alloc (Nat.le_refl _) _
              have hrF : RowI .u8 5 (w3.alloc (Obj.cells #[Value.int .i64 q1, Value.slice (some ⟨w2.heap.size, 0, none⟩) r2 r2] 93)) w2.heap.size w3.heap.size (.slice (some ⟨w2.heap.size, 0, none⟩) r2 r2) (List.replicate r2 (0 : Int)).length (List.replicate r2 0) := by rw [List.length_replicate]; exact RowI.below (RowI.of hm3) hbN
              have hcl : ∀ j q, (bkE (q1, .slice (some ⟨w2.heap.size, 0, none⟩) r2 r2))[j]? = some q → (w3.alloc (Obj.cells #[Value.int .i64 q1, Value.slice (some ⟨w2.heap.size, 0, none⟩) r2 r2] 93)).cell? ((⟨w3.heap.size, 0, none⟩ : Addr).add j) = some q := fun j q hq => by
                rw [Addr.add_lit, Nat.zero_add, World.cell?_alloc_at _ _ _ _ rfl]
                simpa [bkE] using hq
              have hFz : (w3.alloc (Obj.cells #[Value.int .i64 q1, Value.slice (some ⟨w2.heap.size, 0, none⟩) r2 r2] 93)).heap.size = w3.heap.size + 1 := by simp
              have HRF := hid hrF
              have HCL := hid hcl
              clear hrF hcl hbN
              have S4 : ∃ s, (w3.alloc (Obj.cells #[Value.int .i64 q1, Value.slice (some ⟨w2.heap.size, 0, none⟩) r2 r2] 93)).cell? ⟨cb, 2, none⟩ = some s := ⟨_, (Blk.kept CBD.out gb4 (by simp; omega)).cell 2⟩
              refine hK.out _ _ S4 (fun hS => ?_)
              clear hK K
              (try simp only [Act.put, List.getElem_toArray, List.getElem_cons_zero, List.getElem_cons_succ, List.setIfInBounds_toArray, List.set_cons_zero, List.set_cons_succ])
              refine wpAnyH_ready (rs := [11]) (by as_aux_lemma => kernel_rfl) (by simp) ?_
              refine AllReadyH.cons rfl (fun K hK => ?_) AllReadyH.nil
              rw [if_pos (by rfl)]
              have hoF := RowB.chg ROWD.out (Chg.one gb4) (.inr (by omega))
              obtain ⟨us, hus⟩ : ∃ us : List Bv, (w3.alloc (Obj.cells #[Value.int .i64 q1, Value.slice (some ⟨w2.heap.size, 0, none⟩) r2 r2] 93)).ownsRow w.heap.size 93 2 (.slice a2 bs2.length c2) bs2.length (us.flatMap bkE) := by
                obtain ⟨us, q1', q2', q3', q4'⟩ := hoF
                exact ⟨us, q1'.1.2⟩
              refine wp_append_own _ _ _ 24 rfl w.heap.size 93 i0 (.agg #[.int .i64 0, .slice none 0 0]) 2 32 Try.underlying24 hi' hz0 hz1 hz2 rfl (by decide) _ bs2.length (us.flatMap bkE) rfl hus ⟨w3.heap.size, 0, none⟩ 1 1 (bkE (q1, .slice (some ⟨w2.heap.size, 0, none⟩) r2 r2)) rfl rfl HCL.out (bkE_one q1 (some ⟨w2.heap.size, 0, none⟩) r2 r2) (by unfold maxLen; omega) (by omega) (by omega) ?_
              intro v7 w7 ho7 hg7 _
              have lo7 := World.ownsRow.lt hus
              have hsn := RowB.snoc (num := q1) bu_ne hoF HRF.out (by omega) (by omega) (by omega) (fun us' h' => by rw [ownsRow_same h' hus]; exact ho7) hg7
              have cbF := Blk.kept CBD.out gb4 (by simp; omega)
              have rbF := Blk.kept RBD.out gb4 (by simp; omega)
              have cb7 := Blk.kept cbF hg7 (Blk.not_row cbF (by decide) hus)
              have rb7 := Blk.kept rbF hg7 (Blk.not_row rbF (by decide) hus)
              have gw7 := grown_mix (grown_trans GD.out gb4) hg7 (fun j hj => (lo7 j hj).1)
              have hs7 := Src.kept sa4 hg7 (fun j hj => ⟨by have := (lo7 j hj).1; omega, by have := (lo7 j hj).1; omega⟩)
              obtain ⟨a7, c7, hv7, -, -⟩ := hsn.shape
              subst hv7
              have x2 := cb7.cell 2
              have xf2 := cb7.frozen 2
              simp at x2
              have hz7 := hg7.size
              refine hK.out _ _ ⟨_, x2⟩ (fun hS => ?_)
              clear hK K
              (try simp only [Act.put, List.getElem_toArray, List.getElem_cons_zero, List.getElem_cons_succ, List.setIfInBounds_toArray, List.set_cons_zero, List.set_cons_succ])
              refine wpAnyH_take (i := 12) (v := (.pointer (some ⟨cb, 2, none⟩))) rfl (by as_aux_lemma => kernel_rfl) (by as_aux_lemma => kernel_rfl) (by as_aux_lemma => kernel_rfl) (fun _ _ _ h => nomatch h.1) (Or.inl ⟨by kernel_rfl, ?_⟩) hS ?_
              · intro w hSw; (try dsimp only at hSw); go_simp
              simp only [Act.put, List.getElem_toArray, List.getElem_cons_zero, List.getElem_cons_succ, List.setIfInBounds_toArray, List.set_cons_zero, List.set_cons_succ]
              refine wpAnyH_ready (rs := [13]) (by as_aux_lemma => kernel_rfl) (by simp) ?_
              refine AllReadyH.cons rfl (fun K hK => ?_) AllReadyH.nil
              go_simp
              have cb8 := cb7.set (i := 2) (.slice a7 (bs2.length + 1) c7)
              have hg8 := set_grown w7 cb 2 (.slice a7 (bs2.length + 1) c7)
              refine hK.out _ _ ⟨_, cb8.cell 2⟩ (fun hS => ?_)
              clear hK K
              (try simp only [Act.put, List.getElem_toArray, List.getElem_cons_zero, List.getElem_cons_succ, List.setIfInBounds_toArray, List.set_cons_zero, List.set_cons_succ])
              refine wpAnyH_done (by kernel_rfl) ?_ _
              refine ⟨rfl, D.heap.size, w1.heap.size, w2.heap.size, w3.heap.size, q1, r2, a7, c7, ?_, hr2, by simpa using cb8, Blk.kept rb7 hg8 (by simp; omega), RowB.mono (RowB.apart hsn cb7 (by decide) (by decide) hg8) (Nat.le_refl _) hg8.size, ?_, ?_⟩
              · simp only [Act.put, List.getElem_toArray, List.getElem_cons_zero, List.getElem_cons_succ, List.setIfInBounds_toArray, List.set_cons_zero, List.set_cons_succ]
              · exact hs7.kept hg8 (fun j hj => by cases hj; exact ⟨by omega, by omega⟩)
              · exact grown_mix gw7 hg8 (fun j hj => by cases hj; omega)
            · skip
              go_simp
              refine (l1Pick_any B b (T1 + 1) (w1.heap.size) 3 [0, 1, 70] (w1.alloc (Obj.cells #[Value.int .i64 0, Value.int .i64 1, Value.int .i64 70] 2)) sa2 (by omega) rfl (by omega) (by omega) (by omega) lit2).mono ?_
              rintro e w2 ⟨q2, rfl, hq2, hs2, hg2⟩
              have gg2 := grown_trans gb2 hg2
              have hzg2 := gg2.size
              obtain ⟨r2, rfl, hr2⟩ : ∃ r2 : Nat, q2 = (r2 : Int) ∧ r2 ≤ 70 := by simp at hq2; exact ⟨q2.toNat, by omega, by omega⟩
              refine hK.out _ _ ⟨_, (Blk.kept CBD.out gg2 (by simp; omega)).cell 2⟩ (fun hS => ?_)
              clear hK K
              (try simp only [Act.put, List.getElem_toArray, List.getElem_cons_zero, List.getElem_cons_succ, List.setIfInBounds_toArray, List.set_cons_zero, List.set_cons_succ])
              refine wpAnyH_ready (rs := [1, 8]) (by as_aux_lemma => kernel_rfl) (by simp) ?_
              refine AllReadyH.cons rfl (fun K hK => ?_) (AllReadyH.cons rfl (fun K hK => ?_) AllReadyH.nil)
              · skip
                have k2 : w2.cell? ⟨cb, 2, none⟩ = some (.slice a2 bs2.length c2) := by have q := (Blk.kept CBD.out gg2 (by simp; omega)).cell 2; simpa using q
                go_simp
                refine hK.out _ _ hS (fun hS => ?_)
                clear hK K
                (try simp only [Act.put, List.getElem_toArray, List.getElem_cons_zero, List.getElem_cons_succ, List.setIfInBounds_toArray, List.set_cons_zero, List.set_cons_succ])
                clear k2
                refine wpAnyH_ready (rs := [8]) (by as_aux_lemma => kernel_rfl) (by simp) ?_
                refine AllReadyH.cons rfl (fun K hK => ?_) AllReadyH.nil
                rw [if_pos (by rfl)]
                refine wp_make_rd _ _ 22 rfl .u8 w2.heap.size 5 j0 Try.underlying22 hj hj0 hj1 r2 rfl rfl (by rw [hj2]; omega) (by unfold maxLen; omega) (Nat.le_refl _) ?_
                intro w3 hm3 hg3 hz3e
                have hz3a : w2.heap.size + 1 ≤ w3.heap.size := by omega
                clear hz3e
                have gg3 := grown_trans gg2 (grown_none (row := some b) hg3)
                have hs3 := Src.kept hs2 hg3 (by simp)
                have hMz : D.heap.size ≤ w2.heap.size := (gg2).size
                refine hK.out _ _ ⟨_, (Blk.kept CBD.out gg3 (by simp; omega)).cell 2⟩ (fun hS => ?_)
                clear hK K
                (try simp only [Act.put, List.getElem_toArray, List.getElem_cons_zero, List.getElem_cons_succ, List.setIfInBounds_toArray, List.set_cons_zero, List.set_cons_succ])
                refine wpAnyH_take (i := 9) (v := (.agg #[.int .i64 q1, .slice (some ⟨w2.heap.size, 0, none⟩) r2 r2])) rfl (by as_aux_lemma => kernel_rfl) (by as_aux_lemma => kernel_rfl) (by as_aux_lemma => kernel_rfl) (fun _ _ _ h => nomatch h.1) (Or.inl ⟨by kernel_rfl, ?_⟩) hS ?_
                · intro w hSw; (try dsimp only at hSw); go_simp
                simp only [Act.put, List.getElem_toArray, List.getElem_cons_zero, List.getElem_cons_succ, List.setIfInBounds_toArray, List.set_cons_zero, List.set_cons_succ]
                refine wpAnyH_ready (rs := [10]) (by as_aux_lemma => kernel_rfl) (by simp) ?_
                refine AllReadyH.cons rfl (fun K hK => ?_) AllReadyH.nil
                go_simp
                have ga4 : w3.grownBy (w3.alloc (Obj.cells #[Value.int .i64 q1, Value.slice (some ⟨w2.heap.size, 0, none⟩) r2 r2] 93)) (some b) := grown_none (World.grownBy_alloc _ _ none)
                have gb4 := grown_trans gg3 ga4
                have sa4 : Src (w3.alloc (Obj.cells #[Value.int .i64 q1, Value.slice (some ⟨w2.heap.size, 0, none⟩) r2 r2] 93)) B b ((T1 + 1) + 1) := Src.alloc hs3 _
                have hbN : Below w3.heap.size w3 (w3.alloc (Obj.cells #[Value.int .i64 q1, Value.slice (some ⟨w2.heap.size, 0, none⟩) r2 r2] 93)) := (Below.refl _ _).alloc (Nat.le_refl _) _
                have hrF : RowI .u8 5 (w3.alloc (Obj.cells #[Value.int .i64 q1, Value.slice (some ⟨w2.heap.size, 0, none⟩) r2 r2] 93)) w2.heap.size w3.heap.size (.slice (some ⟨w2.heap.size, 0, none⟩) r2 r2) (List.replicate r2 (0 : Int)).length (List.replicate r2 0) := by rw [List.length_replicate]; exact RowI.below (RowI.of hm3) hbN
                have hcl : ∀ j q, (bkE (q1, .slice (some ⟨w2.heap.size, 0, none⟩) r2 r2))[j]? = some q → (w3.alloc (Obj.cells #[Value.int .i64 q1, Value.slice (some ⟨w2.heap.size, 0, none⟩) r2 r2] 93)).cell? ((⟨w3.heap.size, 0, none⟩ : Addr).add j) = some q := fun j q hq => by
                  rw [Addr.add_lit, Nat.zero_add, World.cell?_alloc_at _ _ _ _ rfl]
                  simpa [bkE] using hq
                have hFz : (w3.alloc (Obj.cells #[Value.int .i64 q1, Value.slice (some ⟨w2.heap.size, 0, none⟩) r2 r2] 93)).heap.size = w3.heap.size + 1 := by simp
                have HRF := hid hrF
                have HCL := hid hcl
                clear hrF hcl hbN
                have S4 : ∃ s, (w3.alloc (Obj.cells #[Value.int .i64 q1, Value.slice (some ⟨w2.heap.size, 0, none⟩) r2 r2] 93)).cell? ⟨cb, 2, none⟩ = some s := ⟨_, (Blk.kept CBD.out gb4 (by simp; omega)).cell 2⟩
                refine hK.out _ _ S4 (fun hS => ?_)
                clear hK K
                (try simp only [Act.put, List.getElem_toArray, List.getElem_cons_zero, List.getElem_cons_succ, List.setIfInBounds_toArray, List.set_cons_zero, List.set_cons_succ])
                refine wpAnyH_ready (rs := [11]) (by as_aux_lemma => kernel_rfl) (by simp) ?_
                refine AllReadyH.cons rfl (fun K hK => ?_) AllReadyH.nil
                rw [if_pos (by rfl)]
                have hoF := RowB.chg ROWD.out (Chg.one gb4) (.inr (by omega))
                obtain ⟨us, hus⟩ : ∃ us : List Bv, (w3.alloc (Obj.cells #[Value.int .i64 q1, Value.slice (some ⟨w2.heap.size, 0, none⟩) r2 r2] 93)).ownsRow w.heap.size 93 2 (.slice a2 bs2.length c2) bs2.length (us.flatMap bkE) := by
                  obtain ⟨us, q1', q2', q3', q4'⟩ := hoF
                  exact ⟨us, q1'.1.2⟩
                refine wp_append_own _ _ _ 24 rfl w.heap.size 93 i0 (.agg #[.int .i64 0, .slice none 0 0]) 2 32 Try.underlying24 hi' hz0 hz1 hz2 rfl (by decide) _ bs2.length (us.flatMap bkE) rfl hus ⟨w3.heap.size, 0, none⟩ 1 1 (bkE (q1, .slice (some ⟨w2.heap.size, 0, none⟩) r2 r2)) rfl rfl HCL.out (bkE_one q1 (some ⟨w2.heap.size, 0, none⟩) r2 r2) (by unfold maxLen; omega) (by omega) (by omega) ?_
                intro v7 w7 ho7 hg7 _
                have lo7 := World.ownsRow.lt hus
                have hsn := RowB.snoc (num := q1) bu_ne hoF HRF.out (by omega) (by omega) (by omega) (fun us' h' => by rw [ownsRow_same h' hus]; exact ho7) hg7
                have cbF := Blk.kept CBD.out gb4 (by simp; omega)
                have rbF := Blk.kept RBD.out gb4 (by simp; omega)
                have cb7 := Blk.kept cbF hg7 (Blk.not_row cbF (by decide) hus)
                have rb7 := Blk.kept rbF hg7 (Blk.not_row rbF (by decide) hus)
                have gw7 := grown_mix (grown_trans GD.out gb4) hg7 (fun j hj => (lo7 j hj).1)
                have hs7 := Src.kept sa4 hg7 (fun j hj => ⟨by have := (lo7 j hj).1; omega, by have := (lo7 j hj).1; omega⟩)
                obtain ⟨a7, c7, hv7, -, -⟩ := hsn.shape
                subst hv7
                have x2 := cb7.cell 2
                have xf2 := cb7.frozen 2
                simp at x2
                have hz7 := hg7.size
                refine hK.out _ _ ⟨_, x2⟩ (fun hS => ?_)
                clear hK K
                (try simp only [Act.put, List.getElem_toArray, List.getElem_cons_zero, List.getElem_cons_succ, List.setIfInBounds_toArray, List.set_cons_zero, List.set_cons_succ])
                refine wpAnyH_take (i := 12) (v := (.pointer (some ⟨cb, 2, none⟩))) rfl (by as_aux_lemma => kernel_rfl) (by as_aux_lemma => kernel_rfl) (by as_aux_lemma => kernel_rfl) (fun _ _ _ h => nomatch h.1) (Or.inl ⟨by kernel_rfl, ?_⟩) hS ?_
                · intro w hSw; (try dsimp only at hSw); go_simp
                simp only [Act.put, List.getElem_toArray, List.getElem_cons_zero, List.getElem_cons_succ, List.setIfInBounds_toArray, List.set_cons_zero, List.set_cons_succ]
                refine wpAnyH_ready (rs := [13]) (by as_aux_lemma => kernel_rfl) (by simp) ?_
                refine AllReadyH.cons rfl (fun K hK => ?_) AllReadyH.nil
                go_simp
                have cb8 := cb7.set (i := 2) (.slice a7 (bs2.length + 1) c7)
                have hg8 := set_grown w7 cb 2 (.slice a7 (bs2.length + 1) c7)
                refine hK.out _ _ ⟨_, cb8.cell 2⟩ (fun hS => ?_)
                clear hK K
                (try simp only [Act.put, List.getElem_toArray, List.getElem_cons_zero, List.getElem_cons_succ, List.setIfInBounds_toArray, List.set_cons_zero, List.set_cons_succ])
                refine wpAnyH_done (by kernel_rfl) ?_ _
                refine ⟨rfl, D.heap.size, w1.heap.size, w2.heap.size, w3.heap.size, q1, r2, a7, c7, ?_, hr2, by simpa using cb8, Blk.kept rb7 hg8 (by simp; omega), RowB.mono (RowB.apart hsn cb7 (by decide) (by decide) hg8) (Nat.le_refl _) hg8.size, ?_, ?_⟩
                · simp only [Act.put, List.getElem_toArray, List.getElem_cons_zero, List.getElem_cons_succ, List.setIfInBounds_toArray, List.set_cons_zero, List.set_cons_succ]
                · exact hs7.kept hg8 (fun j hj => by cases hj; exact ⟨by omega, by omega⟩)
                · exact grown_mix gw7 hg8 (fun j hj => by cases hj; omega)
              · skip
                rw [if_pos (by rfl)]
                refine wp_make_rd _ _ 22 rfl .u8 w2.heap.size 5 j0 Try.underlying22 hj hj0 hj1 r2 rfl rfl (by rw [hj2]; omega) (by unfold maxLen; omega) (Nat.le_refl _) ?_
                intro w3 hm3 hg3 hz3e
                have hz3a : w2.heap.size + 1 ≤ w3.heap.size := by omega
                clear hz3e
                have gg3 := grown_trans gg2 (grown_none (row := some b) hg3)
                have hs3 := Src.kept hs2 hg3 (by simp)
                have hMz : D.heap.size ≤ w2.heap.size := (gg2).size
                refine hK.out _ _ ⟨_, (Blk.kept CBD.out gg3 (by simp; omega)).cell 2⟩ (fun hS => ?_)
                clear hK K
                (try simp only [Act.put, List.getElem_toArray, List.getElem_cons_zero, List.getElem_cons_succ, List.setIfInBounds_toArray, List.set_cons_zero, List.set_cons_succ])
                refine wpAnyH_take (i := 9) (v := (.agg #[.int .i64 q1, .slice (some ⟨w2.heap.size, 0, none⟩) r2 r2])) rfl (by as_aux_lemma => kernel_rfl) (by as_aux_lemma => kernel_rfl) (by as_aux_lemma => kernel_rfl) (fun _ _ _ h => nomatch h.1) (Or.inl ⟨by kernel_rfl, ?_⟩) hS ?_
                · intro w hSw; (try dsimp only at hSw); go_simp
                simp only [Act.put, List.getElem_toArray, List.getElem_cons_zero, List.getElem_cons_succ, List.setIfInBounds_toArray, List.set_cons_zero, List.set_cons_succ]
                refine wpAnyH_ready (rs := [1, 10]) (by as_aux_lemma => kernel_rfl) (by simp) ?_
                refine AllReadyH.cons rfl (fun K hK => ?_) (AllReadyH.cons rfl (fun K hK => ?_) AllReadyH.nil)
                · skip
                  have k2 : w3.cell? ⟨cb, 2, none⟩ = some (.slice a2 bs2.length c2) := by have q := (Blk.kept CBD.out gg3 (by simp; omega)).cell 2; simpa using q
                  go_simp
                  refine hK.out _ _ hS (fun hS => ?_)
                  clear hK K
                  (try simp only [Act.put, List.getElem_toArray, List.getElem_cons_zero, List.getElem_cons_succ, List.setIfInBounds_toArray, List.set_cons_zero, List.set_cons_succ])
                  clear k2
                  refine wpAnyH_ready (rs := [10]) (by as_aux_lemma => kernel_rfl) (by simp) ?_
                  refine AllReadyH.cons rfl (fun K hK => ?_) AllReadyH.nil
                  go_simp
                  have ga4 : w3.grownBy (w3.alloc (Obj.cells #[Value.int .i64 q1, Value.slice (some ⟨w2.heap.size, 0, none⟩) r2 r2] 93)) (some b) := grown_none (World.grownBy_alloc _ _ none)
                  have gb4 := grown_trans gg3 ga4
                  have sa4 : Src (w3.alloc (Obj.cells #[Value.int .i64 q1, Value.slice (some ⟨w2.heap.size, 0, none⟩) r2 r2] 93)) B b ((T1 + 1) + 1) := Src.alloc hs3 _
                  have hbN : Below w3.heap.size w3 (w3.alloc (Obj.cells #[Value.int .i64 q1, Value.slice (some ⟨w2.heap.size, 0, none⟩) r2 r2] 93)) := (Below.refl _ _).alloc (Nat.le_refl _) _
                  have hrF : RowI .u8 5 (w3.alloc (Obj.cells #[Value.int .i64 q1, Value.slice (some ⟨w2.heap.size, 0, none⟩) r2 r2] 93)) w2.heap.size w3.heap.size (.slice (some ⟨w2.heap.size, 0, none⟩) r2 r2) (List.replicate r2 (0 : Int)).length (List.replicate r2 0) := by rw [List.length_replicate]; exact RowI.below (RowI.of hm3) hbN
                  have hcl : ∀ j q, (bkE (q1, .slice (some ⟨w2.heap.size, 0, none⟩) r2 r2))[j]? = some q → (w3.alloc (Obj.cells #[Value.int .i64 q1, Value.slice (some ⟨w2.heap.size, 0, none⟩) r2 r2] 93)).cell? ((⟨w3.heap.size, 0, none⟩ : Addr).add j) = some q := fun j q hq => by
                    rw [Addr.add_lit, Nat.zero_add, World.cell?_alloc_at _ _ _ _ rfl]
                    simpa [bkE] using hq
                  have hFz : (w3.alloc (Obj.cells #[Value.int .i64 q1, Value.slice (some ⟨w2.heap.size, 0, none⟩) r2 r2] 93)).heap.size = w3.heap.size + 1 := by simp
                  have HRF := hid hrF
                  have HCL := hid hcl
                  clear hrF hcl hbN
                  have S4 : ∃ s, (w3.alloc (Obj.cells #[Value.int .i64 q1, Value.slice (some ⟨w2.heap.size, 0, none⟩) r2 r2] 93)).cell? ⟨cb, 2, none⟩ = some s := ⟨_, (Blk.kept CBD.out gb4 (by simp; omega)).cell 2⟩
                  refine hK.out _ _ S4 (fun hS => ?_)
                  clear hK K
                  (try simp only [Act.put, List.getElem_toArray, List.getElem_cons_zero, List.getElem_cons_succ, List.setIfInBounds_toArray, List.set_cons_zero, List.set_cons_succ])
                  refine wpAnyH_ready (rs := [11]) (by as_aux_lemma => kernel_rfl) (by simp) ?_
                  refine AllReadyH.cons rfl (fun K hK => ?_) AllReadyH.nil
                  rw [if_pos (by rfl)]
                  have hoF := RowB.chg ROWD.out (Chg.one gb4) (.inr (by omega))
                  obtain ⟨us, hus⟩ : ∃ us : List Bv, (w3.alloc (Obj.cells #[Value.int .i64 q1, Value.slice (some ⟨w2.heap.size, 0, none⟩) r2 r2] 93)).ownsRow w.heap.size 93 2 (.slice a2 bs2.length c2) bs2.length (us.flatMap bkE) := by
                    obtain ⟨us, q1', q2', q3', q4'⟩ := hoF
                    exact ⟨us, q1'.1.2⟩
                  refine wp_append_own _ _ _ 24 rfl w.heap.size 93 i0 (.agg #[.int .i64 0, .slice none 0 0]) 2 32 Try.underlying24 hi' hz0 hz1 hz2 rfl (by decide) _ bs2.length (us.flatMap bkE) rfl hus ⟨w3.heap.size, 0, none⟩ 1 1 (bkE (q1, .slice (some ⟨w2.heap.size, 0, none⟩) r2 r2)) rfl rfl HCL.out (bkE_one q1 (some ⟨w2.heap.size, 0, none⟩) r2 r2) (by unfold maxLen; omega) (by omega) (by omega) ?_
                  intro v7 w7 ho7 hg7 _
                  have lo7 := World.ownsRow.lt hus
                  have hsn := RowB.snoc (num := q1) bu_ne hoF HRF.out (by omega) (by omega) (by omega) (fun us' h' => by rw [ownsRow_same h' hus]; exact ho7) hg7
                  have cbF := Blk.kept CBD.out gb4 (by simp; omega)
                  have rbF := Blk.kept RBD.out gb4 (by simp; omega)
                  have cb7 := Blk.kept cbF hg7 (Blk.not_row cbF (by decide) hus)
                  have rb7 := Blk.kept rbF hg7 (Blk.not_row rbF (by decide) hus)
                  have gw7 := grown_mix (grown_trans GD.out gb4) hg7 (fun j hj => (lo7 j hj).1)
                  have hs7 := Src.kept sa4 hg7 (fun j hj => ⟨by have := (lo7 j hj).1; omega, by have := (lo7 j hj).1; omega⟩)
                  obtain ⟨a7, c7, hv7, -, -⟩ := hsn.shape
                  subst hv7
                  have x2 := cb7.cell 2
                  have xf2 := cb7.frozen 2
                  simp at x2
                  have hz7 := hg7.size
                  refine hK.out _ _ ⟨_, x2⟩ (fun hS => ?_)
                  clear hK K
                  (try simp only [Act.put, List.getElem_toArray, List.getElem_cons_zero, List.getElem_cons_succ, List.setIfInBounds_toArray, List.set_cons_zero, List.set_cons_succ])
                  refine wpAnyH_take (i := 12) (v := (.pointer (some ⟨cb, 2, none⟩))) rfl (by as_aux_lemma => kernel_rfl) (by as_aux_lemma => kernel_rfl) (by as_aux_lemma => kernel_rfl) (fun _ _ _ h => nomatch h.1) (Or.inl ⟨by kernel_rfl, ?_⟩) hS ?_
                  · intro w hSw; (try dsimp only at hSw); go_simp
                  simp only [Act.put, List.getElem_toArray, List.getElem_cons_zero, List.getElem_cons_succ, List.setIfInBounds_toArray, List.set_cons_zero, List.set_cons_succ]
                  refine wpAnyH_ready (rs := [13]) (by as_aux_lemma => kernel_rfl) (by simp) ?_
                  refine AllReadyH.cons rfl (fun K hK => ?_) AllReadyH.nil
                  go_simp
                  have cb8 := cb7.set (i := 2) (.slice a7 (bs2.length + 1) c7)
                  have hg8 := set_grown w7 cb 2 (.slice a7 (bs2.length + 1) c7)
                  refine hK.out _ _ ⟨_, cb8.cell 2⟩ (fun hS => ?_)
                  clear hK K
                  (try simp only [Act.put, List.getElem_toArray, List.getElem_cons_zero, List.getElem_cons_succ, List.setIfInBounds_toArray, List.set_cons_zero, List.set_cons_succ])
                  refine wpAnyH_done (by kernel_rfl) ?_ _
                  refine ⟨rfl, D.heap.size, w1.heap.size, w2.heap.size, w3.heap.size, q1, r2, a7, c7, ?_, hr2, by simpa using cb8, Blk.kept rb7 hg8 (by simp; omega), RowB.mono (RowB.apart hsn cb7 (by decide) (by decide) hg8) (Nat.le_refl _) hg8.size, ?_, ?_⟩
                  · simp only [Act.put, List.getElem_toArray, List.getElem_cons_zero, List.getElem_cons_succ, List.setIfInBounds_toArray, List.set_cons_zero, List.set_cons_succ]
                  · exact hs7.kept hg8 (fun j hj => by cases hj; exact ⟨by omega, by omega⟩)
                  · exact grown_mix gw7 hg8 (fun j hj => by cases hj; omega)
                · skip
                  go_simp
                  have ga4 : w3.grownBy (w3.alloc (Obj.cells #[Value.int .i64 q1, Value.slice (some ⟨w2.heap.size, 0, none⟩) r2 r2] 93)) (some b) := grown_none (World.grownBy_alloc _ _ none)
                  have gb4 := grown_trans gg3 ga4
                  have sa4 : Src (w3.alloc (Obj.cells #[Value.int .i64 q1, Value.slice (some ⟨w2.heap.size, 0, none⟩) r2 r2] 93)) B b ((T1 + 1) + 1) := Src.alloc hs3 _
                  have hbN : Below w3.heap.size w3 (w3.alloc (Obj.cells #[Value.int .i64 q1, Value.slice (some ⟨w2.heap.size, 0, none⟩) r2 r2] 93)) := (Below.refl _ _).alloc (Nat.le_refl _) _
                  have hrF : RowI .u8 5 (w3.alloc (Obj.cells #[Value.int .i64 q1, Value.slice (some ⟨w2.heap.size, 0, none⟩) r2 r2] 93)) w2.heap.size w3.heap.size (.slice (some ⟨w2.heap.size, 0, none⟩) r2 r2) (List.replicate r2 (0 : Int)).length (List.replicate r2 0) := by rw [List.length_replicate]; exact RowI.below (RowI.of hm3) hbN
                  have hcl : ∀ j q, (bkE (q1, .slice (some ⟨w2.heap.size, 0, none⟩) r2 r2))[j]? = some q → (w3.alloc (Obj.cells #[Value.int .i64 q1, Value.slice (some ⟨w2.heap.size, 0, none⟩) r2 r2] 93)).cell? ((⟨w3.heap.size, 0, none⟩ : Addr).add j) = some q := fun j q hq => by
                    rw [Addr.add_lit, Nat.zero_add, World.cell?_alloc_at _ _ _ _ rfl]
                    simpa [bkE] using hq
                  have hFz : (w3.alloc (Obj.cells #[Value.int .i64 q1, Value.slice (some ⟨w2.heap.size, 0, none⟩) r2 r2] 93)).heap.size = w3.heap.size + 1 := by simp
                  have HRF := hid hrF
                  have HCL := hid hcl
                  clear hrF hcl hbN
                  have S4 : ∃ s, (w3.alloc (Obj.cells #[Value.int .i64 q1, Value.slice (some ⟨w2.heap.size, 0, none⟩) r2 r2] 93)).cell? ⟨cb, 2, none⟩ = some s := ⟨_, (Blk.kept CBD.out gb4 (by simp; omega)).cell 2⟩
                  refine hK.out _ _ S4 (fun hS => ?_)
                  clear hK K
                  (try simp only [Act.put, List.getElem_toArray, List.getElem_cons_zero, List.getElem_cons_succ, List.setIfInBounds_toArray, List.set_cons_zero, List.set_cons_succ])
                  refine wpAnyH_ready (rs := [1]) (by as_aux_lemma => kernel_rfl) (by simp) ?_
                  refine AllReadyH.cons rfl (fun K hK => ?_) AllReadyH.nil
                  have k2 : (w3.alloc (Obj.cells #[Value.int .i64 q1, Value.slice (some ⟨w2.heap.size, 0, none⟩) r2 r2] 93)).cell? ⟨cb, 2, none⟩ = some (.slice a2 bs2.length c2) := by have q := (Blk.kept CBD.out gb4 (by simp; omega)).cell 2; simpa using q
                  go_simp
                  refine hK.out _ _ hS (fun hS => ?_)
                  clear hK K
                  (try simp only [Act.put, List.getElem_toArray, List.getElem_cons_zero, List.getElem_cons_succ, List.setIfInBounds_toArray, List.set_cons_zero, List.set_cons_succ])
                  clear k2
                  refine wpAnyH_ready (rs := [11]) (by as_aux_lemma => kernel_rfl) (by simp) ?_
                  refine AllReadyH.cons rfl (fun K hK => ?_) AllReadyH.nil
                  rw [if_pos (by rfl)]
                  have hoF := RowB.chg ROWD.out (Chg.one gb4) (.inr (by omega))
                  obtain ⟨us, hus⟩ : ∃ us : List Bv, (w3.alloc (Obj.cells #[Value.int .i64 q1, Value.slice (some ⟨w2.heap.size, 0, none⟩) r2 r2] 93)).ownsRow w.heap.size 93 2 (.slice a2 bs2.length c2) bs2.length (us.flatMap bkE) := by
                    obtain ⟨us, q1', q2', q3', q4'⟩ := hoF
                    exact ⟨us, q1'.1.2⟩
                  refine wp_append_own _ _ _ 24 rfl w.heap.size 93 i0 (.agg #[.int .i64 0, .slice none 0 0]) 2 32 Try.underlying24 hi' hz0 hz1 hz2 rfl (by decide) _ bs2.length (us.flatMap bkE) rfl hus ⟨w3.heap.size, 0, none⟩ 1 1 (bkE (q1, .slice (some ⟨w2.heap.size, 0, none⟩) r2 r2)) rfl rfl HCL.out (bkE_one q1 (some ⟨w2.heap.size, 0, none⟩) r2 r2) (by unfold maxLen; omega) (by omega) (by omega) ?_
                  intro v7 w7 ho7 hg7 _
                  have lo7 := World.ownsRow.lt hus
                  have hsn := RowB.snoc (num := q1) bu_ne hoF HRF.out (by omega) (by omega) (by omega) (fun us' h' => by rw [ownsRow_same h' hus]; exact ho7) hg7
                  have cbF := Blk.kept CBD.out gb4 (by simp; omega)
                  have rbF := Blk.kept RBD.out gb4 (by simp; omega)
                  have cb7 := Blk.kept cbF hg7 (Blk.not_row cbF (by decide) hus)
                  have rb7 := Blk.kept rbF hg7 (Blk.not_row rbF (by decide) hus)
                  have gw7 := grown_mix (grown_trans GD.out gb4) hg7 (fun j hj => (lo7 j hj).1)
                  have hs7 := Src.kept sa4 hg7 (fun j hj => ⟨by have := (lo7 j hj).1; omega, by have := (lo7 j hj).1; omega⟩)
                  obtain ⟨a7, c7, hv7, -, -⟩ := hsn.shape
                  subst hv7
                  have x2 := cb7.cell 2
                  have xf2 := cb7.frozen 2
                  simp at x2
                  have hz7 := hg7.size
                  refine hK.out _ _ ⟨_, x2⟩ (fun hS => ?_)
                  clear hK K
                  (try simp only [Act.put, List.getElem_toArray, List.getElem_cons_zero, List.getElem_cons_succ, List.setIfInBounds_toArray, List.set_cons_zero, List.set_cons_succ])
                  refine wpAnyH_take (i := 12) (v := (.pointer (some ⟨cb, 2, none⟩))) rfl (by as_aux_lemma => kernel_rfl) (by as_aux_lemma => kernel_rfl) (by as_aux_lemma => kernel_rfl) (fun _ _ _ h => nomatch h.1) (Or.inl ⟨by kernel_rfl, ?_⟩) hS ?_
                  · intro w hSw; (try dsimp only at hSw); go_simp
                  simp only [Act.put, List.getElem_toArray, List.getElem_cons_zero, List.getElem_cons_succ, List.setIfInBounds_toArray, List.set_cons_zero, List.set_cons_succ]
                  refine wpAnyH_ready (rs := [13]) (by as_aux_lemma => kernel_rfl) (by simp) ?_
                  refine AllReadyH.cons rfl (fun K hK => ?_) AllReadyH.nil
                  go_simp
                  have cb8 := cb7.set (i := 2) (.slice a7 (bs2.length + 1) c7)
                  have hg8 := set_grown w7 cb 2 (.slice a7 (bs2.length + 1) c7)
                  refine hK.out _ _ ⟨_, cb8.cell 2⟩ (fun hS => ?_)
                  clear hK K
                  (try simp only [Act.put, List.getElem_toArray, List.getElem_cons_zero, List.getElem_cons_succ, List.setIfInBounds_toArray, List.set_cons_zero, List.set_cons_succ])
                  refine wpAnyH_done (by kernel_rfl) ?_ _
                  refine ⟨rfl, D.heap.size, w1.heap.size, w2.heap.size, w3.heap.size, q1, r2, a7, c7, ?_, hr2, by simpa using cb8, Blk.kept rb7 hg8 (by simp; omega), RowB.mono (RowB.apart hsn cb7 (by decide) (by decide) hg8) (Nat.le_refl _) hg8.size, ?_, ?_⟩
                  · simp only [Act.put, List.getElem_toArray, List.getElem_cons_zero, List.getElem_cons_succ, List.setIfInBounds_toArray, List.set_cons_zero, List.set_cons_succ]
                  · exact hs7.kept hg8 (fun j hj => by cases hj; exact ⟨by omega, by omega⟩)
                  · exact grown_mix gw7 hg8 (fun j hj => by cases hj; omega)
        · skip
          go_simp
          have ga2 : (D.alloc (Obj.cells #[Value.int .i64 0, Value.int .i64 401, Value.int .i64 (-1)] 2)).grownBy ((D.alloc (Obj.cells #[Value.int .i64 0, Value.int .i64 401, Value.int .i64 (-1)] 2)).alloc (Obj.cells #[Value.int .i64 0, Value.int .i64 1, Value.int .i64 70] 2)) (some b) := grown_none (World.grownBy_alloc _ _ none)
          have lit1' := rd_kept lit1 ga2 (fun ad had => by cases had; simp; omega)
          have lit2 := lit_rd (k := .i64) (e := 2) (D.alloc (Obj.cells #[Value.int .i64 0, Value.int .i64 401, Value.int .i64 (-1)] 2)) [0, 1, 70] 3 rfl (by simp [maxLen])
          have gb2 := grown_trans gb1 ga2
          have sa2 : Src ((D.alloc (Obj.cells #[Value.int .i64 0, Value.int .i64 401, Value.int .i64 (-1)] 2)).alloc (Obj.cells #[Value.int .i64 0, Value.int .i64 1, Value.int .i64 70] 2)) B b T1 := Src.alloc sa1 _
          have hza2 : D.heap.size ≤ (D.alloc (Obj.cells #[Value.int .i64 0, Value.int .i64 401, Value.int .i64 (-1)] 2)).heap.size := (gb1).size
          have hzb2 : ((D.alloc (Obj.cells #[Value.int .i64 0, Value.int .i64 401, Value.int .i64 (-1)] 2)).alloc (Obj.cells #[Value.int .i64 0, Value.int .i64 1, Value.int .i64 70] 2)).heap.size = (D.alloc (Obj.cells #[Value.int .i64 0, Value.int .i64 401, Value.int .i64 (-1)] 2)).heap.size + 1 := by simp
          (try simp only [World.size_alloc] at lit2 hza2 hzb2)
          refine hK.out _ _ ⟨_, (Blk.kept CBD.out gb2 (by simp; omega)).cell 2⟩ (fun hS => ?_)
          clear hK K
          (try simp only [Act.put, List.getElem_toArray, List.getElem_cons_zero, List.getElem_cons_succ, List.setIfInBounds_toArray, List.set_cons_zero, List.set_cons_succ])
          refine wpAnyH_ready (rs := [1, 4]) (by as_aux_lemma => kernel_rfl) (by simp) ?_
          refine AllReadyH.cons rfl (fun K hK => ?_) (AllReadyH.cons rfl (fun K hK => ?_) AllReadyH.nil)
          · skip
            have k2 : ((D.alloc (Obj.cells #[Value.int .i64 0, Value.int .i64 401, Value.int .i64 (-1)] 2)).alloc (Obj.cells #[Value.int .i64 0, Value.int .i64 1, Value.int .i64 70] 2)).cell? ⟨cb, 2, none⟩ = some (.slice a2 bs2.length c2) := by have q := (Blk.kept CBD.out gb2 (by simp; omega)).cell 2; simpa using q
            go_simp
            refine hK.out _ _ hS (fun hS => ?_)
            clear hK K
            (try simp only [Act.put, List.getElem_toArray, List.getElem_cons_zero, List.getElem_cons_succ, List.setIfInBounds_toArray, List.set_cons_zero, List.set_cons_succ])
            clear k2
            refine wpAnyH_ready (rs := [4]) (by as_aux_lemma => kernel_rfl) (by simp) ?_
            refine AllReadyH.cons rfl (fun K hK => ?_) AllReadyH.nil
            go_simp
            refine (l1Pick_any B b T1 (D.heap.size) 3 [0, 401, -1] ((D.alloc (Obj.cells #[Value.int .i64 0, Value.int .i64 401, Value.int .i64 (-1)] 2)).alloc (Obj.cells #[Value.int .i64 0, Value.int .i64 1, Value.int .i64 70] 2)) sa2 (by omega) rfl (by omega) (by omega) (by omega) lit1').mono ?_
            rintro e w1 ⟨q1, rfl, hq1, hs1, hg1⟩
            have gg1 := grown_trans gb2 hg1
            have hzg1 := gg1.size
            have lit2' := rd_kept lit2 hg1 (fun ad had => by cases had; simp; omega)
            refine hK.out _ _ ⟨_, (Blk.kept CBD.out gg1 (by simp; omega)).cell 2⟩ (fun hS => ?_)
            clear hK K
            (try simp only [Act.put, List.getElem_toArray, List.getElem_cons_zero, List.getElem_cons_succ, List.setIfInBounds_toArray, List.set_cons_zero, List.set_cons_succ])
            refine wpAnyH_ready (rs := [7]) (by as_aux_lemma => kernel_rfl) (by simp) ?_
            refine AllReadyH.cons rfl (fun K hK => ?_) AllReadyH.nil
            go_simp
            refine (l1Pick_any B b (T1 + 1) (D.heap.size + 1) 3 [0, 1, 70] w1 hs1 (by omega) rfl (by omega) (by omega) (by omega) lit2').mono ?_
            rintro e w2 ⟨q2, rfl, hq2, hs2, hg2⟩
            have gg2 := grown_trans gg1 hg2
            have hzg2 := gg2.size
            obtain ⟨r2, rfl, hr2⟩ : ∃ r2 : Nat, q2 = (r2 : Int) ∧ r2 ≤ 70 := by simp at hq2; exact ⟨q2.toNat, by omega, by omega⟩
            refine hK.out _ _ ⟨_, (Blk.kept CBD.out gg2 (by simp; omega)).cell 2⟩ (fun hS => ?_)
            clear hK K
            (try simp only [Act.put, List.getElem_toArray, List.getElem_cons_zero, List.getElem_cons_succ, List.setIfInBounds_toArray, List.set_cons_zero, List.set_cons_succ])
            refine wpAnyH_ready (rs := [8]) (by as_aux_lemma => kernel_rfl) (by simp) ?_
            refine AllReadyH.cons rfl (fun K hK => ?_) AllReadyH.nil
            rw [if_pos (by rfl)]
            refine wp_make_rd _ _ 22 rfl .u8 w2.heap.size 5 j0 Try.underlying22 hj hj0 hj1 r2 rfl rfl (by rw [hj2]; omega) (by unfold maxLen; omega) (Nat.le_refl _) ?_
            intro w3 hm3 hg3 hz3e
            have hz3a : w2.heap.size + 1 ≤ w3.heap.size := by omega
            clear hz3e
            have gg3 := grown_trans gg2 (grown_none (row := some b) hg3)
            have hs3 := Src.kept hs2 hg3 (by simp)
            have hMz : D.heap.size ≤ w2.heap.size := (gg2).size
            refine hK.out _ _ ⟨_, (Blk.kept CBD.out gg3 (by simp; omega)).cell 2⟩ (fun hS => ?_)
            clear hK K
            (try simp only [Act.put, List.getElem_toArray, List.getElem_cons_zero, List.getElem_cons_succ, List.setIfInBounds_toArray, List.set_cons_zero, List.set_cons_succ])
            refine wpAnyH_take (i := 9) (v := (.agg #[.int .i64 q1, .slice (some ⟨w2.heap.size, 0, none⟩) r2 r2])) rfl (by as_aux_lemma => kernel_rfl) (by as_aux_lemma => kernel_rfl) (by as_aux_lemma => kernel_rfl) (fun _ _ _ h => nomatch h.1) (Or.inl ⟨by kernel_rfl, ?_⟩) hS ?_
            · intro w hSw; (try dsimp only at hSw); go_simp
            simp only [Act.put, List.getElem_toArray, List.getElem_cons_zero, List.getElem_cons_succ, List.setIfInBounds_toArray, List.set_cons_zero, List.set_cons_succ]
            refine wpAnyH_ready (rs := [10]) (by as_aux_lemma => kernel_rfl) (by simp) ?_
            refine AllReadyH.cons rfl (fun K hK => ?_) AllReadyH.nil
            go_simp
            have ga4 : w3.grownBy (w3.alloc (Obj.cells #[Value.int .i64 q1, Value.slice (some ⟨w2.heap.size, 0, none⟩) r2 r2] 93)) (some b) := grown_none (World.grownBy_alloc _ _ none)
            have gb4 := grown_trans gg3 ga4
            have sa4 : Src (w3.alloc (Obj.cells #[Value.int .i64 q1, Value.slice (some ⟨w2.heap.size, 0, none⟩) r2 r2] 93)) B b ((T1 + 1) + 1) := Src.alloc hs3 _
            have hbN : Below w3.heap.size w3 (w3.alloc (Obj.cells #[Value.int .i64 q1, Value.slice (some ⟨w2.heap.size, 0, none⟩) r2 r2] 93)) := (Below.refl _ _).alloc (Nat.le_refl _) _
            have hrF : RowI .u8 5 (w3.alloc (Obj.cells #[Value.int .i64 q1, Value.slice (some ⟨w2.heap.size, 0, none⟩) r2 r2] 93)) w2.heap.size w3.heap.size (.slice (some ⟨w2.heap.size, 0, none⟩) r2 r2) (List.replicate r2 (0 : Int)).length (List.replicate r2 0) := by rw [List.length_replicate]; exact RowI.below (RowI.of hm3) hbN
            have hcl : ∀ j q, (bkE (q1, .slice (some ⟨w2.heap.size, 0, none⟩) r2 r2))[j]? = some q → (w3.alloc (Obj.cells #[Value.int .i64 q1, Value.slice (some ⟨w2.heap.size, 0, none⟩) r2 r2] 93)).cell? ((⟨w3.heap.size, 0, none⟩ : Addr).add j) = some q := fun j q hq => by
              rw [Addr.add_lit, Nat.zero_add, World.cell?_alloc_at _ _ _ _ rfl]
              simpa [bkE] using hq
            have hFz : (w3.alloc (Obj.cells #[Value.int .i64 q1, Value.slice (some ⟨w2.heap.size, 0, none⟩) r2 r2] 93)).heap.size = w3.heap.size + 1 := by simp
            have HRF := hid hrF
            have HCL := hid hcl
            clear hrF hcl hbN
            have S4 : ∃ s, (w3.alloc (Obj.cells #[Value.int .i64 q1, Value.slice (some ⟨w2.heap.size, 0, none⟩) r2 r2] 93)).cell? ⟨cb, 2, none⟩ = some s := ⟨_, (Blk.kept CBD.out gb4 (by simp; omega)).cell 2⟩
            refine hK.out _ _ S4 (fun hS => ?_)
            clear hK K
            (try simp only [Act.put, List.getElem_toArray, List.getElem_cons_zero, List.getElem_cons_succ, List.setIfInBounds_toArray, List.set_cons_zero, List.set_cons_succ])
            refine wpAnyH_ready (rs := [11]) (by as_aux_lemma => kernel_rfl) (by simp) ?_
            refine AllReadyH.cons rfl (fun K hK => ?_) AllReadyH.nil
            rw [if_pos (by rfl)]
            have hoF := RowB.chg ROWD.out (Chg.one gb4) (.inr (by omega))
            obtain ⟨us, hus⟩ : ∃ us : List Bv, (w3.alloc (Obj.cells #[Value.int .i64 q1, Value.slice (some ⟨w2.heap.size, 0, none⟩) r2 r2] 93)).ownsRow w.heap.size 93 2 (.slice a2 bs2.length c2) bs2.length (us.flatMap bkE) := by
              obtain ⟨us, q1', q2', q3', q4'⟩ := hoF
              exact ⟨us, q1'.1.2⟩
            refine wp_append_own _ _ _ 24 rfl w.heap.size 93 i0 (.agg #[.int .i64 0, .slice none 0 0]) 2 32 Try.underlying24 hi' hz0 hz1 hz2 rfl (by decide) _ bs2.length (us.flatMap bkE) rfl hus ⟨w3.heap.size, 0, none⟩ 1 1 (bkE (q1, .slice (some ⟨w2.heap.size, 0, none⟩) r2 r2)) rfl rfl HCL.out (bkE_one q1 (some ⟨w2.heap.size, 0, none⟩) r2 r2) (by unfold maxLen; omega) (by omega) (by omega) ?_
            intro v7 w7 ho7 hg7 _
            have lo7 := World.ownsRow.lt hus
            have hsn := RowB.snoc (num := q1) bu_ne hoF HRF.out (by omega) (by omega) (by omega) (fun us' h' => by rw [ownsRow_same h' hus]; exact ho7) hg7
            have cbF := Blk.kept CBD.out gb4 (by simp; omega)
            have rbF := Blk.kept RBD.out gb4 (by simp; omega)
            have cb7 := Blk.kept cbF hg7 (Blk.not_row cbF (by decide) hus)
            have rb7 := Blk.kept rbF hg7 (Blk.not_row rbF (by decide) hus)
            have gw7 := grown_mix (grown_trans GD.out gb4) hg7 (fun j hj => (lo7 j hj).1)
            have hs7 := Src.kept sa4 hg7 (fun j hj => ⟨by have := (lo7 j hj).1; omega, by have := (lo7 j hj).1; omega⟩)
            obtain ⟨a7, c7, hv7, -, -⟩ := hsn.shape
            subst hv7
            have x2 := cb7.cell 2
            have xf2 := cb7.frozen 2
            simp at x2
            have hz7 := hg7.size
            refine hK.out _ _ ⟨_, x2⟩ (fun hS => ?_)
            clear hK K
            (try simp only [Act.put, List.getElem_toArray, List.getElem_cons_zero, List.getElem_cons_succ, List.setIfInBounds_toArray, List.set_cons_zero, List.set_cons_succ])
            refine wpAnyH_take (i := 12) (v := (.pointer (some ⟨cb, 2, none⟩))) rfl (by as_aux_lemma => kernel_rfl) (by as_aux_lemma => kernel_rfl) (by as_aux_lemma => kernel_rfl) (fun _ _ _ h => nomatch h.1) (Or.inl ⟨by kernel_rfl, ?_⟩) hS ?_
            · intro w hSw; (try dsimp only at hSw); go_simp
            simp only [Act.put, List.getElem_toArray, List.getElem_cons_zero, List.getElem_cons_succ, List.setIfInBounds_toArray, List.set_cons_zero, List.set_cons_succ]
            refine wpAnyH_ready (rs := [13]) (by as_aux_lemma => kernel_rfl) (by simp) ?_
            refine AllReadyH.cons rfl (fun K hK => ?_) AllReadyH.nil
            go_simp
            have cb8 := cb7.set (i := 2) (.slice a7 (bs2.length + 1) c7)
            have hg8 := set_grown w7 cb 2 (.slice a7 (bs2.length + 1) c7)
            refine hK.out _ _ ⟨_, cb8.cell 2⟩ (fun hS => ?_)
            clear hK K
            (try simp only [Act.put, List.getElem_toArray, List.getElem_cons_zero, List.getElem_cons_succ, List.setIfInBounds_toArray, List.set_cons_zero, List.set_cons_succ])
            refine wpAnyH_done (by kernel_rfl) ?_ _
            refine ⟨rfl, D.heap.size, D.heap.size + 1, w2.heap.size, w3.heap.size, q1, r2, a7, c7, ?_, hr2, by simpa using cb8, Blk.kept rb7 hg8 (by simp; omega), RowB.mono (RowB.apart hsn cb7 (by decide) (by decide) hg8) (Nat.le_refl _) hg8.size, ?_, ?_⟩
            · simp only [Act.put, List.getElem_toArray, List.getElem_cons_zero, List.getElem_cons_succ, List.setIfInBounds_toArray, List.set_cons_zero, List.set_cons_succ]
            · exact hs7.kept hg8 (fun j hj => by cases hj; exact ⟨by omega, by omega⟩)
            · exact grown_mix gw7 hg8 (fun j hj => by cases hj; omega)
          · skip
            go_simp
            refine (l1Pick_any B b T1 (D.heap.size) 3 [0, 401, -1] ((D.alloc (Obj.cells #[Value.int .i64 0, Value.int .i64 401, Value.int .i64 (-1)] 2)).alloc (Obj.cells #[Value.int .i64 0, Value.int .i64 1, Value.int .i64 70] 2)) sa2 (by omega) rfl (by omega) (by omega) (by omega) lit1').mono ?_
            rintro e w1 ⟨q1, rfl, hq1, hs1, hg1⟩
            have gg1 := grown_trans gb2 hg1
            have hzg1 := gg1.size
            have lit2' := rd_kept lit2 hg1 (fun ad had => by cases had; simp; omega)
            refine hK.out _ _ ⟨_, (Blk.kept CBD.out gg1 (by simp; omega)).cell 2⟩ (fun hS => ?_)
            clear hK K
            (try simp only [Act.put, List.getElem_toArray, List.getElem_cons_zero, List.getElem_cons_succ, List.setIfInBounds_toArray, List.set_cons_zero, List.set_cons_succ])
            refine wpAnyH_ready (rs := [1, 7]) (by as_aux_lemma => kernel_rfl) (by simp) ?_
            refine AllReadyH.cons rfl (fun K hK => ?_) (AllReadyH.cons rfl (fun K hK => ?_) AllReadyH.nil)
            · skip
              have k2 : w1.cell? ⟨cb, 2, none⟩ = some (.slice a2 bs2.length c2) := by have q := (Blk.kept CBD.out gg1 (by simp; omega)).cell 2; simpa using q
              go_simp
              refine hK.out _ _ hS (fun hS => ?_)
              clear hK K
              (try simp only [Act.put, List.getElem_toArray, List.getElem_cons_zero, List.getElem_cons_succ, List.setIfInBounds_toArray, List.set_cons_zero, List.set_cons_succ])
              clear k2
              refine wpAnyH_ready (rs := [7]) (by as_aux_lemma => kernel_rfl) (by simp) ?_
              refine AllReadyH.cons rfl (fun K hK => ?_) AllReadyH.nil
              go_simp
              refine (l1Pick_any B b (T1 + 1) (D.heap.size + 1) 3 [0, 1, 70] w1 hs1 (by omega) rfl (by omega) (by omega) (by omega) lit2').mono ?_
              rintro e w2 ⟨q2, rfl, hq2, hs2, hg2⟩
              have gg2 := grown_trans gg1 hg2
              have hzg2 := gg2.size
              obtain ⟨r2, rfl, hr2⟩ : ∃ r2 : Nat, q2 = (r2 : Int) ∧ r2 ≤ 70 := by simp at hq2; exact ⟨q2.toNat, by omega, by omega⟩
              refine hK.out _ _ ⟨_, (Blk.kept CBD.out gg2 (by simp; omega)).cell 2⟩ (fun hS => ?_)
              clear hK K
              (try simp only [Act.put, List.getElem_toArray, List.getElem_cons_zero, List.getElem_cons_succ, List.setIfInBounds_toArray, List.set_cons_zero, List.set_cons_succ])
              refine wpAnyH_ready (rs := [8]) (by as_aux_lemma => kernel_rfl) (by simp) ?_
              refine AllReadyH.cons rfl (fun K hK => ?_) AllReadyH.nil
              rw [if_pos (by rfl)]
              refine wp_make_rd _ _ 22 rfl .u8 w2.heap.size 5 j0 Try.underlying22 hj hj0 hj1 r2 rfl rfl (by rw [hj2]; omega) (by unfold maxLen; omega) (Nat.le_refl _) ?_
              intro w3 hm3 hg3 hz3e
              have hz3a : w2.heap.size + 1 ≤ w3.heap.size := by omega
              clear hz3e
              have gg3 := grown_trans gg2 (grown_none (row := some b) hg3)
              have hs3 := Src.kept hs2 hg3 (by simp)
              have hMz : D.heap.size ≤ w2.heap.size := (gg2).size
              refine hK.out _ _ ⟨_, (Blk.kept CBD.out gg3 (by simp; omega)).cell 2⟩ (fun hS => ?_)
              clear hK K
              (try simp only [Act.put, List.getElem_toArray, List.getElem_cons_zero, List.getElem_cons_succ, List.setIfInBounds_toArray, List.set_cons_zero, List.set_cons_succ])
              refine wpAnyH_take (i := 9) (v := (.agg #[.int .i64 q1, .slice (some ⟨w2.heap.size, 0, none⟩) r2 r2])) rfl (by as_aux_lemma => kernel_rfl) (by as_aux_lemma => kernel_rfl) (by as_aux_lemma => kernel_rfl) (fun _ _ _ h => nomatch h.1) (Or.inl ⟨by kernel_rfl, ?_⟩) hS ?_
              · intro w hSw; (try dsimp only at hSw); go_simp
              simp only [Act.put, List.getElem_toArray, List.getElem_cons_zero, List.getElem_cons_succ, List.setIfInBounds_toArray, List.set_cons_zero, List.set_cons_succ]
              refine wpAnyH_ready (rs := [10]) (by as_aux_lemma => kernel_rfl) (by simp) ?_
              refine AllReadyH.cons rfl (fun K hK => ?_) AllReadyH.nil
              go_simp
              have ga4 : w3.grownBy (w3.alloc (Obj.cells #[Value.int .i64 q1, Value.slice (some ⟨w2.heap.size, 0, none⟩) r2 r2] 93)) (some b) := grown_none (World.grownBy_alloc _ _ none)
              have gb4 := grown_trans gg3 ga4
              have sa4 : Src (w3.alloc (Obj.cells #[Value.int .i64 q1, Value.slice (some ⟨w2.heap.size, 0, none⟩) r2 r2] 93)) B b ((T1 + 1) + 1) := Src.alloc hs3 _
              have hbN : Below w3.heap.size w3 (w3.alloc (Obj.cells #[Value.int .i64 q1, Value.slice (some ⟨w2.heap.size, 0, none⟩) r2 r2] 93)) := (Below.refl _ _).alloc (Nat.le_refl _) _
              have hrF : RowI .u8 5 (w3.alloc (Obj.cells #[Value.int .i64 q1, Value.slice (some ⟨w2.heap.size, 0, none⟩) r2 r2] 93)) w2.heap.size w3.heap.size (.slice (some ⟨w2.heap.size, 0, none⟩) r2 r2) (List.replicate r2 (0 : Int)).length (List.replicate r2 0) := by rw [List.length_replicate]; exact RowI.below (RowI.of hm3) hbN
              have hcl : ∀ j q, (bkE (q1, .slice (some ⟨w2.heap.size, 0, none⟩) r2 r2))[j]? = some q → (w3.alloc (Obj.cells #[Value.int .i64 q1, Value.slice (some ⟨w2.heap.size, 0, none⟩) r2 r2] 93)).cell? ((⟨w3.heap.size, 0, none⟩ : Addr).add j) = some q := fun j q hq => by
                rw [Addr.add_lit, Nat.zero_add, World.cell?_alloc_at _ _ _ _ rfl]
                simpa [bkE] using hq
              have hFz : (w3.alloc (Obj.cells #[Value.int .i64 q1, Value.slice (some ⟨w2.heap.size, 0, none⟩) r2 r2] 93)).heap.size = w3.heap.size + 1 := by simp
              have HRF := hid hrF
              have HCL := hid hcl
              clear hrF hcl hbN
              have S4 : ∃ s, (w3.alloc (Obj.cells #[Value.int .i64 q1, Value.slice (some ⟨w2.heap.size, 0, none⟩) r2 r2] 93)).cell? ⟨cb, 2, none⟩ = some s := ⟨_, (Blk.kept CBD.out gb4 (by simp; omega)).cell 2⟩
              refine hK.out _ _ S4 (fun hS => ?_)
              clear hK K
              (try simp only [Act.put, List.getElem_toArray, List.getElem_cons_zero, List.getElem_cons_succ, List.setIfInBounds_toArray, List.set_cons_zero, List.set_cons_succ])
              refine wpAnyH_ready (rs := [11]) (by as_aux_lemma => kernel_rfl) (by simp) ?_
              refine AllReadyH.cons rfl (fun K hK => ?_) AllReadyH.nil
              rw [if_pos (by rfl)]
              have hoF := RowB.chg ROWD.out (Chg.one gb4) (.inr (by omega))
              obtain ⟨us, hus⟩ : ∃ us : List Bv, (w3.alloc (Obj.cells #[Value.int .i64 q1, Value.slice (some ⟨w2.heap.size, 0, none⟩) r2 r2] 93)).ownsRow w.heap.size 93 2 (.slice a2 bs2.length c2) bs2.length (us.flatMap bkE) := by
                obtain ⟨us, q1', q2', q3', q4'⟩ := hoF
                exact ⟨us, q1'.1.2⟩
              refine wp_append_own _ _ _ 24 rfl w.heap.size 93 i0 (.agg #[.int .i64 0, .slice none 0 0]) 2 32 Try.underlying24 hi' hz0 hz1 hz2 rfl (by decide) _ bs2.length (us.flatMap bkE) rfl hus ⟨w3.heap.size, 0, none⟩ 1 1 (bkE (q1, .slice (some ⟨w2.heap.size, 0, none⟩) r2 r2)) rfl rfl HCL.out (bkE_one q1 (some ⟨w2.heap.size, 0, none⟩) r2 r2) (by unfold maxLen; omega) (by omega) (by omega) ?_
              intro v7 w7 ho7 hg7 _
              have lo7 := World.ownsRow.lt hus
              have hsn := RowB.snoc (num := q1) bu_ne hoF HRF.out (by omega) (by omega) (by omega) (fun us' h' => by rw [ownsRow_same h' hus]; exact ho7) hg7
              have cbF := Blk.kept CBD.out gb4 (by simp; omega)
              have rbF := Blk.kept RBD.out gb4 (by simp; omega)
              have cb7 := Blk.kept cbF hg7 (Blk.not_row cbF (by decide) hus)
              have rb7 := Blk.kept rbF hg7 (Blk.not_row rbF (by decide) hus)
              have gw7 := grown_mix (grown_trans GD.out gb4) hg7 (fun j hj => (lo7 j hj).1)
              have hs7 := Src.kept sa4 hg7 (fun j hj => ⟨by have := (lo7 j hj).1; omega, by have := (lo7 j hj).1; omega⟩)
              obtain ⟨a7, c7, hv7, -, -⟩ := hsn.shape
              subst hv7
              have x2 := cb7.cell 2
              have xf2 := cb7.frozen 2
              simp at x2
              have hz7 := hg7.size
              refine hK.out _ _ ⟨_, x2⟩ (fun hS => ?_)
              clear hK K
              (try simp only [Act.put, List.getElem_toArray, List.getElem_cons_zero, List.getElem_cons_succ, List.setIfInBounds_toArray, List.set_cons_zero, List.set_cons_succ])
              refine wpAnyH_take (i := 12) (v := (.pointer (some ⟨cb, 2, none⟩))) rfl (by as_aux_lemma => kernel_rfl) (by as_aux_lemma => kernel_rfl) (by as_aux_lemma => kernel_rfl) (fun _ _ _ h => nomatch h.1) (Or.inl ⟨by kernel_rfl, ?_⟩) hS ?_
              · intro w hSw; (try dsimp only at hSw); go_simp
              simp only [Act.put, List.getElem_toArray, List.getElem_cons_zero, List.getElem_cons_succ, List.setIfInBounds_toArray, List.set_cons_zero, List.set_cons_succ]
              refine wpAnyH_ready (rs := [13]) (by as_aux_lemma => kernel_rfl) (by simp) ?_
              refine AllReadyH.cons rfl (fun K hK => ?_) AllReadyH.nil
              go_simp
              have cb8 := cb7.set (i := 2) (.slice a7 (bs2.length + 1) c7)
              have hg8 := set_grown w7 cb 2 (.slice a7 (bs2.length + 1) c7)
              refine hK.out _ _ ⟨_, cb8.cell 2⟩ (fun hS => ?_)
              clear hK K
              (try simp only [Act.put, List.getElem_toArray, List.getElem_cons_zero, List.getElem_cons_succ, List.setIfInBounds_toArray, List.set_cons_zero, List.set_cons_succ])
              refine wpAnyH_done (by kernel_rfl) ?_ _
              refine ⟨rfl, D.heap.size, D.heap.size + 1, w2.heap.size, w3.heap.size, q1, r2, a7, c7, ?_, hr2, by simpa using cb8, Blk.kept rb7 hg8 (by simp; omega), RowB.mono (RowB.apart hsn cb7 (by decide) (by decide) hg8) (Nat.le_refl _) hg8.size, ?_, ?_⟩
              · simp only [Act.put, List.getElem_toArray, List.getElem_cons_zero, List.getElem_cons_succ, List.setIfInBounds_toArray, List.set_cons_zero, List.set_cons_succ]
              · exact hs7.kept hg8 (fun j hj => by cases hj; exact ⟨by omega, by omega⟩)
              · exact grown_mix gw7 hg8 (fun j hj => by cases hj; omega)
            · skip
              go_simp
              refine (l1Pick_any B b (T1 + 1) (D.heap.size + 1) 3 [0, 1, 70] w1 hs1 (by omega) rfl (by omega) (by omega) (by omega) lit2').mono ?_
              rintro e w2 ⟨q2, rfl, hq2, hs2, hg2⟩
              have gg2 := grown_trans gg1 hg2
              have hzg2 := gg2.size
              obtain ⟨r2, rfl, hr2⟩ : ∃ r2 : Nat, q2 = (r2 : Int) ∧ r2 ≤ 70 := by simp at hq2; exact ⟨q2.toNat, by omega, by omega⟩
              refine hK.out _ _ ⟨_, (Blk.kept CBD.out gg2 (by simp; omega)).cell 2⟩ (fun hS => ?_)
              clear hK K
              (try simp only [Act.put, List.getElem_toArray, List.getElem_cons_zero, List.getElem_cons_succ, List.setIfInBounds_toArray, List.set_cons_zero, List.set_cons_succ])
              refine wpAnyH_ready (rs := [1, 8]) (by as_aux_lemma => kernel_rfl) (by simp) ?_
              refine AllReadyH.cons rfl (fun K hK => ?_) (AllReadyH.cons rfl (fun K hK => ?_) AllReadyH.nil)
              · skip
                have k2 : w2.cell? ⟨cb, 2, none⟩ = some (.slice a2 bs2.length c2) := by have q := (Blk.kept CBD.out gg2 (by simp; omega)).cell 2; simpa using q
                go_simp
                refine hK.out _ _ hS (fun hS => ?_)
                clear hK K
                (try simp only [Act.put, List.getElem_toArray, List.getElem_cons_zero, List.getElem_cons_succ, List.setIfInBounds_toArray, List.set_cons_zero, List.set_cons_succ])
                clear k2
                refine wpAnyH_ready (rs := [8]) (by as_aux_lemma => kernel_rfl) (by simp) ?_
                refine AllReadyH.cons rfl (fun K hK => ?_) AllReadyH.nil
                rw [if_pos (by rfl)]
                refine wp_make_rd _ _ 22 rfl .u8 w2.heap.size 5 j0 Try.underlying22 hj hj0 hj1 r2 rfl rfl (by rw [hj2]; omega) (by unfold maxLen; omega) (Nat.le_refl _) ?_
                intro w3 hm3 hg3 hz3e
                have hz3a : w2.heap.size + 1 ≤ w3.heap.size := by omega
                clear hz3e
                have gg3 := grown_trans gg2 (grown_none (row := some b) hg3)
                have hs3 := Src.kept hs2 hg3 (by simp)
                have hMz : D.heap.size ≤ w2.heap.size := (gg2).size
                refine hK.out _ _ ⟨_, (Blk.kept CBD.out gg3 (by simp; omega)).cell 2⟩ (fun hS => ?_)
                clear hK K
                (try simp only [Act.put, List.getElem_toArray, List.getElem_cons_zero, List.getElem_cons_succ, List.setIfInBounds_toArray, List.set_cons_zero, List.set_cons_succ])
                refine wpAnyH_take (i := 9) (v := (.agg #[.int .i64 q1, .slice (some ⟨w2.heap.size, 0, none⟩) r2 r2])) rfl (by as_aux_lemma => kernel_rfl) (by as_aux_lemma => kernel_rfl) (by as_aux_lemma => kernel_rfl) (fun _ _ _ h => nomatch h.1) (Or.inl ⟨by kernel_rfl, ?_⟩) hS ?_
                · intro w hSw; (try dsimp only at hSw); go_simp
                simp only [Act.put, List.getElem_toArray, List.getElem_cons_zero, List.getElem_cons_succ, List.setIfInBounds_toArray, List.set_cons_zero, List.set_cons_succ]
                refine wpAnyH_ready (rs := [10]) (by as_aux_lemma => kernel_rfl) (by simp) ?_
                refine AllReadyH.cons rfl (fun K hK => ?_) AllReadyH.nil
                go_simp
                have ga4 : w3.grownBy (w3.alloc (Obj.cells #[Value.int .i64 q1, Value.slice (some ⟨w2.heap.size, 0, none⟩) r2 r2] 93)) (some b) := grown_none (World.grownBy_alloc _ _ none)
                have gb4 := grown_trans gg3 ga4
                have sa4 : Src (w3.alloc (Obj.cells #[Value.int .i64 q1, Value.slice (some ⟨w2.heap.size, 0, none⟩) r2 r2] 93)) B b ((T1 + 1) + 1) := Src.alloc hs3 _
                have hbN : Below w3.heap.size w3 (w3.alloc (Obj.cells #[Value.int .i64 q1, Value.slice (some ⟨w2.heap.size, 0, none⟩) r2 r2] 93)) := (Below.refl _ _).alloc (Nat.le_refl _) _
                have hrF : RowI .u8 5 (w3.alloc (Obj.cells #[Value.int .i64 q1, Value.slice (some ⟨w2.heap.size, 0, none⟩) r2 r2] 93)) w2.heap.size w3.heap.size (.slice (some ⟨w2.heap.size, 0, none⟩) r2 r2) (List.replicate r2 (0 : Int)).length (List.replicate r2 0) := by rw [List.length_replicate]; exact RowI.below (RowI.of hm3) hbN
                have hcl : ∀ j q, (bkE (q1, .slice (some ⟨w2.heap.size, 0, none⟩) r2 r2))[j]? = some q → (w3.alloc (Obj.cells #[Value.int .i64 q1, Value.slice (some ⟨w2.heap.size, 0, none⟩) r2 r2] 93)).cell? ((⟨w3.heap.size, 0, none⟩ : Addr).add j) = some q := fun j q hq => by
                  rw [Addr.add_lit, Nat.zero_add, World.cell?_alloc_at _ _ _ _ rfl]
                  simpa [bkE] using hq
                have hFz : (w3.alloc (Obj.cells #[Value.int .i64 q1, Value.slice (some ⟨w2.heap.size, 0, none⟩) r2 r2] 93)).heap.size = w3.heap.size + 1 := by simp
                have HRF := hid hrF
                have HCL := hid hcl
                clear hrF hcl hbN
                have S4 : ∃ s, (w3.alloc (Obj.cells #[Value.int .i64 q1, Value.slice (some ⟨w2.heap.size, 0, none⟩) r2 r2] 93)).cell? ⟨cb, 2, none⟩ = some s := ⟨_, (Blk.kept CBD.out gb4 (by simp; omega)).cell 2⟩
                refine hK.out _ _ S4 (fun hS => ?_)
                clear hK K
                (try simp only [Act.put, List.getElem_toArray, List.getElem_cons_zero, List.getElem_cons_succ, List.setIfInBounds_toArray, List.set_cons_zero, List.set_cons_succ])
                refine wpAnyH_ready (rs := [11]) (by as_aux_lemma => kernel_rfl) (by simp) ?_
                refine AllReadyH.cons rfl (fun K hK => ?_) AllReadyH.nil
                rw [if_pos (by rfl)]
                have hoF := RowB.chg ROWD.out (Chg.one gb4) (.inr (by omega))
                obtain ⟨us, hus⟩ : ∃ us : List Bv, (w3.alloc (Obj.cells #[Value.int .i64 q1, Value.slice (some ⟨w2.heap.size, 0, none⟩) r2 r2] 93)).ownsRow w.heap.size 93 2 (.slice a2 bs2.length c2) bs2.length (us.flatMap bkE) := by
                  obtain ⟨us, q1', q2', q3', q4'⟩ := hoF
                  exact ⟨us, q1'.1.2⟩
                refine wp_append_own _ _ _ 24 rfl w.heap.size 93 i0 (.agg #[.int .i64 0, .slice none 0 0]) 2 32 Try.underlying24 hi' hz0 hz1 hz2 rfl (by decide) _ bs2.length (us.flatMap bkE) rfl hus ⟨w3.heap.size, 0, none⟩ 1 1 (bkE (q1, .slice (some ⟨w2.heap.size, 0, none⟩) r2 r2)) rfl rfl HCL.out (bkE_one q1 (some ⟨w2.heap.size, 0, none⟩) r2 r2) (by unfold maxLen; omega) (by omega) (by omega) ?_
                intro v7 w7 ho7 hg7 _
                have lo7 := World.ownsRow.lt hus
                have hsn := RowB.snoc (num := q1) bu_ne hoF HRF.out (by omega) (by omega) (by omega) (fun us' h' => by rw [ownsRow_same h' hus]; exact ho7) hg7
                have cbF := Blk.kept CBD.out gb4 (by simp; omega)
                have rbF := Blk.kept RBD.out gb4 (by simp; omega)
                have cb7 := Blk.kept cbF hg7 (Blk.not_row cbF (by decide) hus)
                have rb7 := Blk.kept rbF hg7 (Blk.not_row rbF (by decide) hus)
                have gw7 := grown_mix (grown_trans GD.out gb4) hg7 (fun j hj => (lo7 j hj).1)
                have hs7 := Src.kept sa4 hg7 (fun j hj => ⟨by have := (lo7 j hj).1; omega, by have := (lo7 j hj).1; omega⟩)
                obtain ⟨a7, c7, hv7, -, -⟩ := hsn.shape
                subst hv7
                have x2 := cb7.cell 2
                have xf2 := cb7.frozen 2
                simp at x2
                have hz7 := hg7.size
                refine hK.out _ _ ⟨_, x2⟩ (fun hS => ?_)
                clear hK K
                (try simp only [Act.put, List.getElem_toArray, List.getElem_cons_zero, List.getElem_cons_succ, List.setIfInBounds_toArray, List.set_cons_zero, List.set_cons_succ])
                refine wpAnyH_take (i := 12) (v := (.pointer (some ⟨cb, 2, none⟩))) rfl (by as_aux_lemma => kernel_rfl) (by as_aux_lemma => kernel_rfl) (by as_aux_lemma => kernel_rfl) (fun _ _ _ h => nomatch h.1) (Or.inl ⟨by kernel_rfl, ?_⟩) hS ?_
                · intro w hSw; (try dsimp only at hSw); go_simp
                simp only [Act.put, List.getElem_toArray, List.getElem_cons_zero, List.getElem_cons_succ, List.setIfInBounds_toArray, List.set_cons_zero, List.set_cons_succ]
                refine wpAnyH_ready (rs := [13]) (by as_aux_lemma => kernel_rfl) (by simp) ?_
                refine AllReadyH.cons rfl (fun K hK => ?_) AllReadyH.nil
                go_simp
                have cb8 := cb7.set (i := 2) (.slice a7 (bs2.length + 1) c7)
                have hg8 := set_grown w7 cb 2 (.slice a7 (bs2.length + 1) c7)
                refine hK.out _ _ ⟨_, cb8.cell 2⟩ (fun hS => ?_)
                clear hK K
                (try simp only [Act.put, List.getElem_toArray, List.getElem_cons_zero, List.getElem_cons_succ, List.setIfInBounds_toArray, List.set_cons_zero, List.set_cons_succ])
                refine wpAnyH_done (by kernel_rfl) ?_ _
                refine ⟨rfl, D.heap.size, D.heap.size + 1, w2.heap.size, w3.heap.size, q1, r2, a7, c7, ?_, hr2, by simpa using cb8, Blk.kept rb7 hg8 (by simp; omega), RowB.mono (RowB.apart hsn cb7 (by decide) (by decide) hg8) (Nat.le_refl _) hg8.size, ?_, ?_⟩
                · simp only [Act.put, List.getElem_toArray, List.getElem_cons_zero, List.getElem_cons_succ, List.setIfInBounds_toArray, List.set_cons_zero, List.set_cons_succ]
                · exact hs7.kept hg8 (fun j hj => by cases hj; exact ⟨by omega, by omega⟩)
                · exact grown_mix gw7 hg8 (fun j hj => by cases hj; omega)
              · skip
                rw [if_pos (by rfl)]
                refine wp_make_rd _ _ 22 rfl .u8 w2.heap.size 5 j0 Try.underlying22 hj hj0 hj1 r2 rfl rfl (by rw [hj2]; omega) (by unfold maxLen; omega) (Nat.le_refl _) ?_
                intro w3 hm3 hg3 hz3e
                have hz3a : w2.heap.size + 1 ≤ w3.heap.size := by omega
                clear hz3e
                have gg3 := grown_trans gg2 (grown_none (row := some b) hg3)
                have hs3 := Src.kept hs2 hg3 (by simp)
                have hMz : D.heap.size ≤ w2.heap.size := (gg2).size
                refine hK.out _ _ ⟨_, (Blk.kept CBD.out gg3 (by simp; omega)).cell 2⟩ (fun hS => ?_)
                clear hK K
                (try simp only [Act.put, List.getElem_toArray, List.getElem_cons_zero, List.getElem_cons_succ, List.setIfInBounds_toArray, List.set_cons_zero, List.set_cons_succ])
                refine wpAnyH_take (i := 9) (v := (.agg #[.int .i64 q1, .slice (some ⟨w2.heap.size, 0, none⟩) r2 r2])) rfl (by as_aux_lemma => kernel_rfl) (by as_aux_lemma => kernel_rfl) (by as_aux_lemma => kernel_rfl) (fun _ _ _ h => nomatch h.1) (Or.inl ⟨by kernel_rfl, ?_⟩) hS ?_
                · intro w hSw; (try dsimp only at hSw); go_simp
                simp only [Act.put, List.getElem_toArray, List.getElem_cons_zero, List.getElem_cons_succ, List.setIfInBounds_toArray, List.set_cons_zero, List.set_cons_succ]
                refine wpAnyH_ready (rs := [1, 10]) (by as_aux_lemma => kernel_rfl) (by simp) ?_
                refine AllReadyH.cons rfl (fun K hK => ?_) (AllReadyH.cons rfl (fun K hK => ?_) AllReadyH.nil)
                · skip
                  have k2 : w3.cell? ⟨cb, 2, none⟩ = some (.slice a2 bs2.length c2) := by have q := (Blk.kept CBD.out gg3 (by simp; omega)).cell 2; simpa using q
                  go_simp
                  refine hK.out _ _ hS (fun hS => ?_)
                  clear hK K
                  (try simp only [Act.put, List.getElem_toArray, List.getElem_cons_zero, List.getElem_cons_succ, List.setIfInBounds_toArray, List.set_cons_zero, List.set_cons_succ])
                  clear k2
                  refine wpAnyH_ready (rs := [10]) (by as_aux_lemma => kernel_rfl) (by simp) ?_
                  refine AllReadyH.cons rfl (fun K hK => ?_) AllReadyH.nil
                  go_simp
                  have ga4 : w3.grownBy (w3.alloc (Obj.cells #[Value.int .i64 q1, Value.slice (some ⟨w2.heap.size, 0, none⟩) r2 r2] 93)) (some b) := grown_none (World.grownBy_alloc _ _ none)
                  have gb4 := grown_trans gg3 ga4
                  have sa4 : Src (w3.alloc (Obj.cells #[Value.int .i64 q1, Value.slice (some ⟨w2.heap.size, 0, none⟩) r2 r2] 93)) B b ((T1 + 1) + 1) := Src.alloc hs3 _
                  have hbN : Below w3.heap.size w3 (w3.alloc (Obj.cells #[Value.int .i64 q1, Value.slice (some ⟨w2.heap.size, 0, none⟩) r2 r2] 93)) := (Below.refl _ _).alloc (Nat.le_refl _) _
                  have hrF : RowI .u8 5 (w3.alloc (Obj.cells #[Value.int .i64 q1, Value.slice (some ⟨w2.heap.size, 0, none⟩) r2 r2] 93)) w2.heap.size w3.heap.size (.slice (some ⟨w2.heap.size, 0, none⟩) r2 r2) (List.replicate r2 (0 : Int)).length (List.replicate r2 0) := by rw [List.length_replicate]; exact RowI.below (RowI.of hm3) hbN
                  have hcl : ∀ j q, (bkE (q1, .slice (some ⟨w2.heap.size, 0, none⟩) r2 r2))[j]? = some q → (w3.alloc (Obj.cells #[Value.int .i64 q1, Value.slice (some ⟨w2.heap.size, 0, none⟩) r2 r2] 93)).cell? ((⟨w3.heap.size, 0, none⟩ : Addr).add j) = some q := fun j q hq => by
                    rw [Addr.add_lit, Nat.zero_add, World.cell?_alloc_at _ _ _ _ rfl]
                    simpa [bkE] using hq
                  have hFz : (w3.alloc (Obj.cells #[Value.int .i64 q1, Value.slice (some ⟨w2.heap.size, 0, none⟩) r2 r2] 93)).heap.size = w3.heap.size + 1 := by simp
                  have HRF := hid hrF
                  have HCL := hid hcl
                  clear hrF hcl hbN
                  have S4 : ∃ s, (w3.alloc (Obj.cells #[Value.int .i64 q1, Value.slice (some ⟨w2.heap.size, 0, none⟩) r2 r2] 93)).cell? ⟨cb, 2, none⟩ = some s := ⟨_, (Blk.kept CBD.out gb4 (by simp; omega)).cell 2⟩
                  refine hK.out _ _ S4 (fun hS => ?_)
                  clear hK K
                  (try simp only [Act.put, List.getElem_toArray, List.getElem_cons_zero, List.getElem_cons_succ, List.setIfInBounds_toArray, List.set_cons_zero, List.set_cons_succ])
                  refine wpAnyH_ready (rs := [11]) (by as_aux_lemma => kernel_rfl) (by simp) ?_
                  refine AllReadyH.cons rfl (fun K hK => ?_) AllReadyH.nil
                  rw [if_pos (by rfl)]
                  have hoF := RowB.chg ROWD.out (Chg.one gb4) (.inr (by omega))
                  obtain ⟨us, hus⟩ : ∃ us : List Bv, (w3.alloc (Obj.cells #[Value.int .i64 q1, Value.slice (some ⟨w2.heap.size, 0, none⟩) r2 r2] 93)).ownsRow w.heap.size 93 2 (.slice a2 bs2.length c2) bs2.length (us.flatMap bkE) := by
                    obtain ⟨us, q1', q2', q3', q4'⟩ := hoF
                    exact ⟨us, q1'.1.2⟩
                  refine wp_append_own _ _ _ 24 rfl w.heap.size 93 i0 (.agg #[.int .i64 0, .slice none 0 0]) 2 32 Try.underlying24 hi' hz0 hz1 hz2 rfl (by decide) _ bs2.length (us.flatMap bkE) rfl hus ⟨w3.heap.size, 0, none⟩ 1 1 (bkE (q1, .slice (some ⟨w2.heap.size, 0, none⟩) r2 r2)) rfl rfl HCL.out (bkE_one q1 (some ⟨w2.heap.size, 0, none⟩) r2 r2) (by unfold maxLen; omega) (by omega) (by omega) ?_
                  intro v7 w7 ho7 hg7 _
                  have lo7 := World.ownsRow.lt hus
                  have hsn := RowB.snoc (num := q1) bu_ne hoF HRF.out (by omega) (by omega) (by omega) (fun us' h' => by rw [ownsRow_same h' hus]; exact ho7) hg7
                  have cbF := Blk.kept CBD.out gb4 (by simp; omega)
                  have rbF := Blk.kept RBD.out gb4 (by simp; omega)
                  have cb7 := Blk.kept cbF hg7 (Blk.not_row cbF (by decide) hus)
                  have rb7 := Blk.kept rbF hg7 (Blk.not_row rbF (by decide) hus)
                  have gw7 := grown_mix (grown_trans GD.out gb4) hg7 (fun j hj => (lo7 j hj).1)
                  have hs7 := Src.kept sa4 hg7 (fun j hj => ⟨by have := (lo7 j hj).1; omega, by have := (lo7 j hj).1; omega⟩)
                  obtain ⟨a7, c7, hv7, -, -⟩ := hsn.shape
                  subst hv7
                  have x2 := cb7.cell 2
                  have xf2 := cb7.frozen 2
                  simp at x2
                  have hz7 := hg7.size
                  refine hK.out _ _ ⟨_, x2⟩ (fun hS => ?_)
                  clear hK K
                  (try simp only [Act.put, List.getElem_toArray, List.getElem_cons_zero, List.getElem_cons_succ, List.setIfInBounds_toArray, List.set_cons_zero, List.set_cons_succ])
                  refine wpAnyH_take (i := 12) (v := (.pointer (some ⟨cb, 2, none⟩))) rfl (by as_aux_lemma => kernel_rfl) (by as_aux_lemma => kernel_rfl) (by as_aux_lemma => kernel_rfl) (fun _ _ _ h => nomatch h.1) (Or.inl ⟨by kernel_rfl, ?_⟩) hS ?_
                  · intro w hSw; (try dsimp only at hSw); go_simp
                  simp only [Act.put, List.getElem_toArray, List.getElem_cons_zero, List.getElem_cons_succ, List.setIfInBounds_toArray, List.set_cons_zero, List.set_cons_succ]
                  refine wpAnyH_ready (rs := [13]) (by as_aux_lemma => kernel_rfl) (by simp) ?_
                  refine AllReadyH.cons rfl (fun K hK => ?_) AllReadyH.nil
                  go_simp
                  have cb8 := cb7.set (i := 2) (.slice a7 (bs2.length + 1) c7)
                  have hg8 := set_grown w7 cb 2 (.slice a7 (bs2.length + 1) c7)
                  refine hK.out _ _ ⟨_, cb8.cell 2⟩ (fun hS => ?_)
                  clear hK K
                  (try simp only [Act.put, List.getElem_toArray, List.getElem_cons_zero, List.getElem_cons_succ, List.setIfInBounds_toArray, List.set_cons_zero, List.set_cons_succ])
                  refine wpAnyH_done (by kernel_rfl) ?_ _
                  refine ⟨rfl, D.heap.size, D.heap.size + 1, w2.heap.size, w3.heap.size, q1, r2, a7, c7, ?_, hr2, by simpa using cb8, Blk.kept rb7 hg8 (by simp; omega), RowB.mono (RowB.apart hsn cb7 (by decide) (by decide) hg8) (Nat.le_refl _) hg8.size, ?_, ?_⟩
                  · simp only [Act.put, List.getElem_toArray, List.getElem_cons_zero, List.getElem_cons_succ, List.setIfInBounds_toArray, List.set_cons_zero, List.set_cons_succ]
                  · exact hs7.kept hg8 (fun j hj => by cases hj; exact ⟨by omega, by omega⟩)
                  · exact grown_mix gw7 hg8 (fun j hj => by cases hj; omega)
                · skip
                  go_simp
                  have ga4 : w3.grownBy (w3.alloc (Obj.cells #[Value.int .i64 q1, Value.slice (some ⟨w2.heap.size, 0, none⟩) r2 r2] 93)) (some b) := grown_none (World.grownBy_alloc _ _ none)
                  have gb4 := grown_trans gg3 ga4
                  have sa4 : Src (w3.alloc (Obj.cells #[Value.int .i64 q1, Value.slice (some ⟨w2.heap.size, 0, none⟩) r2 r2] 93)) B b ((T1 + 1) + 1) := Src.alloc hs3 _
                  have hbN : Below w3.heap.size w3 (w3.alloc (Obj.cells #[Value.int .i64 q1, Value.slice (some ⟨w2.heap.size, 0, none⟩) r2 r2] 93)) := (Below.refl _ _).alloc (Nat.le_refl _) _
                  have hrF : RowI .u8 5 (w3.alloc (Obj.cells #[Value.int .i64 q1, Value.slice (some ⟨w2.heap.size, 0, none⟩) r2 r2] 93)) w2.heap.size w3.heap.size (.slice (some ⟨w2.heap.size, 0, none⟩) r2 r2) (List.replicate r2 (0 : Int)).length (List.replicate r2 0) := by rw [List.length_replicate]; exact RowI.below (RowI.of hm3) hbN
                  have hcl : ∀ j q, (bkE (q1, .slice (some ⟨w2.heap.size, 0, none⟩) r2 r2))[j]? = some q → (w3.alloc (Obj.cells #[Value.int .i64 q1, Value.slice (some ⟨w2.heap.size, 0, none⟩) r2 r2] 93)).cell? ((⟨w3.heap.size, 0, none⟩ : Addr).add j) = some q := fun j q hq => by
                    rw [Addr.add_lit, Nat.zero_add, World.cell?_alloc_at _ _ _ _ rfl]
                    simpa [bkE] using hq
                  have hFz : (w3.alloc (Obj.cells #[Value.int .i64 q1, Value.slice (some ⟨w2.heap.size, 0, none⟩) r2 r2] 93)).heap.size = w3.heap.size + 1 := by simp
                  have HRF := hid hrF
                  have HCL := hid hcl
                  clear hrF hcl hbN
                  have S4 : ∃ s, (w3.alloc (Obj.cells #[Value.int .i64 q1, Value.slice (some ⟨w2.heap.size, 0, none⟩) r2 r2] 93)).cell? ⟨cb, 2, none⟩ = some s := ⟨_, (Blk.kept CBD.out gb4 (by simp; omega)).cell 2⟩
                  refine hK.out _ _ S4 (fun hS => ?_)
                  clear hK K
                  (try simp only [Act.put, List.getElem_toArray, List.getElem_cons_zero, List.getElem_cons_succ, List.setIfInBounds_toArray, List.set_cons_zero, List.set_cons_succ])
                  refine wpAnyH_ready (rs := [1]) (by as_aux_lemma => kernel_rfl) (by simp) ?_
                  refine AllReadyH.cons rfl (fun K hK => ?_) AllReadyH.nil
                  have k2 : (w3.alloc (Obj.cells #[Value.int .i64 q1, Value.slice (some ⟨w2.heap.size, 0, none⟩) r2 r2] 93)).cell? ⟨cb, 2, none⟩ = some (.slice a2 bs2.length c2) := by have q := (Blk.kept CBD.out gb4 (by simp; omega)).cell 2; simpa using q
                  go_simp
                  refine hK.out _ _ hS (fun hS => ?_)
                  clear hK K
                  (try simp only [Act.put, List.getElem_toArray, List.getElem_cons_zero, List.getElem_cons_succ, List.setIfInBounds_toArray, List.set_cons_zero, List.set_cons_succ])
                  clear k2
                  refine wpAnyH_ready (rs := [11]) (by as_aux_lemma => kernel_rfl) (by simp) ?_
                  refine AllReadyH.cons rfl (fun K hK => ?_) AllReadyH.nil
                  rw [if_pos (by rfl)]
                  have hoF := RowB.chg ROWD.out (Chg.one gb4) (.inr (by omega))
                  obtain ⟨us, hus⟩ : ∃ us : List Bv, (w3.alloc (Obj.cells #[Value.int .i64 q1, Value.slice (some ⟨w2.heap.size, 0, none⟩) r2 r2] 93)).ownsRow w.heap.size 93 2 (.slice a2 bs2.length c2) bs2.length (us.flatMap bkE) := by
                    obtain ⟨us, q1', q2', q3', q4'⟩ := hoF
                    exact ⟨us, q1'.1.2⟩
                  refine wp_append_own _ _ _ 24 rfl w.heap.size 93 i0 (.agg #[.int .i64 0, .slice none 0 0]) 2 32 Try.underlying24 hi' hz0 hz1 hz2 rfl (by decide) _ bs2.length (us.flatMap bkE) rfl hus ⟨w3.heap.size, 0, none⟩ 1 1 (bkE (q1, .slice (some ⟨w2.heap.size, 0, none⟩) r2 r2)) rfl rfl HCL.out (bkE_one q1 (some ⟨w2.heap.size, 0, none⟩) r2 r2) (by unfold maxLen; omega) (by omega) (by omega) ?_
                  intro v7 w7 ho7 hg7 _
                  have lo7 := World.ownsRow.lt hus
                  have hsn := RowB.snoc (num := q1) bu_ne hoF HRF.out (by omega) (by omega) (by omega) (fun us' h' => by rw [ownsRow_same h' hus]; exact ho7) hg7
                  have cbF := Blk.kept CBD.out gb4 (by simp; omega)
                  have rbF := Blk.kept RBD.out gb4 (by simp; omega)
                  have cb7 := Blk.kept cbF hg7 (Blk.not_row cbF (by decide) hus)
                  have rb7 := Blk.kept rbF hg7 (Blk.not_row rbF (by decide) hus)
                  have gw7 := grown_mix (grown_trans GD.out gb4) hg7 (fun j hj => (lo7 j hj).1)
                  have hs7 := Src.kept sa4 hg7 (fun j hj => ⟨by have := (lo7 j hj).1; omega, by have := (lo7 j hj).1; omega⟩)
                  obtain ⟨a7, c7, hv7, -, -⟩ := hsn.shape
                  subst hv7
                  have x2 := cb7.cell 2
                  have xf2 := cb7.frozen 2
                  simp at x2
                  have hz7 := hg7.size
                  refine hK.out _ _ ⟨_, x2⟩ (fun hS => ?_)
                  clear hK K
                  (try simp only [Act.put, List.getElem_toArray, List.getElem_cons_zero, List.getElem_cons_succ, List.setIfInBounds_toArray, List.set_cons_zero, List.set_cons_succ])
                  refine wpAnyH_take (i := 12) (v := (.pointer (some ⟨cb, 2, none⟩))) rfl (by as_aux_lemma => kernel_rfl) (by as_aux_lemma => kernel_rfl) (by as_aux_lemma => kernel_rfl) (fun _ _ _ h => nomatch h.1) (Or.inl ⟨by kernel_rfl, ?_⟩) hS ?_
                  · intro w hSw; (try dsimp only at hSw); go_simp
                  simp only [Act.put, List.getElem_toArray, List.getElem_cons_zero, List.getElem_cons_succ, List.setIfInBounds_toArray, List.set_cons_zero, List.set_cons_succ]
                  refine wpAnyH_ready (rs := [13]) (by as_aux_lemma => kernel_rfl) (by simp) ?_
                  refine AllReadyH.cons rfl (fun K hK => ?_) AllReadyH.nil
                  go_simp
                  have cb8 := cb7.set (i := 2) (.slice a7 (bs2.length + 1) c7)
                  have hg8 := set_grown w7 cb 2 (.slice a7 (bs2.length + 1) c7)
                  refine hK.out _ _ ⟨_, cb8.cell 2⟩ (fun hS => ?_)
                  clear hK K
                  (try simp only [Act.put, List.getElem_toArray, List.getElem_cons_zero, List.getElem_cons_succ, List.setIfInBounds_toArray, List.set_cons_zero, List.set_cons_succ])
                  refine wpAnyH_done (by kernel_rfl) ?_ _
                  refine ⟨rfl, D.heap.size, D.heap.size + 1, w2.heap.size, w3.heap.size, q1, r2, a7, c7, ?_, hr2, by simpa using cb8, Blk.kept rb7 hg8 (by simp; omega), RowB.mono (RowB.apart hsn cb7 (by decide) (by decide) hg8) (Nat.le_refl _) hg8.size, ?_, ?_⟩
                  · simp only [Act.put, List.getElem_toArray, List.getElem_cons_zero, List.getElem_cons_succ, List.setIfInBounds_toArray, List.set_cons_zero, List.set_cons_succ]
                  · exact hs7.kept hg8 (fun j hj => by cases hj; exact ⟨by omega, by omega⟩)
                  · exact grown_mix gw7 hg8 (fun j hj => by cases hj; omega)
      · skip
        go_simp
        have ga2 : D.grownBy (D.alloc (Obj.cells #[Value.int .i64 0, Value.int .i64 1, Value.int .i64 70] 2)) (some b) := grown_none (World.grownBy_alloc _ _ none)
        have lit2 := lit_rd (k := .i64) (e := 2) D [0, 1, 70] 3 rfl (by simp [maxLen])
        have gb2 := grown_trans (World.grownBy.refl D (some b)) ga2
        have sa2 : Src (D.alloc (Obj.cells #[Value.int .i64 0, Value.int .i64 1, Value.int .i64 70] 2)) B b T1 := Src.alloc HSD.out _
        have hza2 : D.heap.size ≤ D.heap.size := ((World.grownBy.refl D (some b))).size
        have hzb2 : (D.alloc (Obj.cells #[Value.int .i64 0, Value.int .i64 1, Value.int .i64 70] 2)).heap.size = D.heap.size + 1 := by simp
        (try simp only [World.size_alloc] at lit2 hza2 hzb2)
        refine hK.out _ _ ⟨_, (Blk.kept CBD.out gb2 (by simp; omega)).cell 2⟩ (fun hS => ?_)
        clear hK K
        (try simp only [Act.put, List.getElem_toArray, List.getElem_cons_zero, List.getElem_cons_succ, List.setIfInBounds_toArray, List.set_cons_zero, List.set_cons_succ])
        refine wpAnyH_ready (rs := [1, 3]) (by as_aux_lemma => kernel_rfl) (by simp) ?_
        refine AllReadyH.cons rfl (fun K hK => ?_) (AllReadyH.cons rfl (fun K hK => ?_) AllReadyH.nil)
        · skip
          have k2 : (D.alloc (Obj.cells #[Value.int .i64 0, Value.int .i64 1, Value.int .i64 70] 2)).cell? ⟨cb, 2, none⟩ = some (.slice a2 bs2.length c2) := by have q := (Blk.kept CBD.out gb2 (by simp; omega)).cell 2; simpa using q
          go_simp
          refine hK.out _ _ hS (fun hS => ?_)
          clear hK K
          (try simp only [Act.put, List.getElem_toArray, List.getElem_cons_zero, List.getElem_cons_succ, List.setIfInBounds_toArray, List.set_cons_zero, List.set_cons_succ])
          clear k2
          refine wpAnyH_ready (rs := [3]) (by as_aux_lemma => kernel_rfl) (by simp) ?_
          refine AllReadyH.cons rfl (fun K hK => ?_) AllReadyH.nil
          go_simp
          have ga1 : (D.alloc (Obj.cells #[Value.int .i64 0, Value.int .i64 1, Value.int .i64 70] 2)).grownBy ((D.alloc (Obj.cells #[Value.int .i64 0, Value.int .i64 1, Value.int .i64 70] 2)).alloc (Obj.cells #[Value.int .i64 0, Value.int .i64 401, Value.int .i64 (-1)] 2)) (some b) := grown_none (World.grownBy_alloc _ _ none)
          have lit2' := rd_kept lit2 ga1 (fun ad had => by cases had; simp; omega)
          have lit1 := lit_rd (k := .i64) (e := 2) (D.alloc (Obj.cells #[Value.int .i64 0, Value.int .i64 1, Value.int .i64 70] 2)) [0, 401, -1] 3 rfl (by simp [maxLen])
          have gb1 := grown_trans gb2 ga1
          have sa1 : Src ((D.alloc (Obj.cells #[Value.int .i64 0, Value.int .i64 1, Value.int .i64 70] 2)).alloc (Obj.cells #[Value.int .i64 0, Value.int .i64 401, Value.int .i64 (-1)] 2)) B b T1 := Src.alloc sa2 _
          have hza1 : D.heap.size ≤ (D.alloc (Obj.cells #[Value.int .i64 0, Value.int .i64 1, Value.int .i64 70] 2)).heap.size := (gb2).size
          have hzb1 : ((D.alloc (Obj.cells #[Value.int .i64 0, Value.int .i64 1, Value.int .i64 70] 2)).alloc (Obj.cells #[Value.int .i64 0, Value.int .i64 401, Value.int .i64 (-1)] 2)).heap.size = (D.alloc (Obj.cells #[Value.int .i64 0, Value.int .i64 1, Value.int .i64 70] 2)).heap.size + 1 := by simp
          (try simp only [World.size_alloc] at lit1 hza1 hzb1)
          refine hK.out _ _ ⟨_, (Blk.kept CBD.out gb1 (by simp; omega)).cell 2⟩ (fun hS => ?_)
          clear hK K
          (try simp only [Act.put, List.getElem_toArray, List.getElem_cons_zero, List.getElem_cons_succ, List.setIfInBounds_toArray, List.set_cons_zero, List.set_cons_succ])
          refine wpAnyH_ready (rs := [4]) (by as_aux_lemma => kernel_rfl) (by simp) ?_
          refine AllReadyH.cons rfl (fun K hK => ?_) AllReadyH.nil
          go_simp
          refine (l1Pick_any B b T1 (D.heap.size + 1) 3 [0, 401, -1] ((D.alloc (Obj.cells #[Value.int .i64 0, Value.int .i64 1, Value.int .i64 70] 2)).alloc (Obj.cells #[Value.int .i64 0, Value.int .i64 401, Value.int .i64 (-1)] 2)) sa1 (by omega) rfl (by omega) (by omega) (by omega) lit1).mono ?_
          rintro e w1 ⟨q1, rfl, hq1, hs1, hg1⟩
          have gg1 := grown_trans gb1 hg1
          have hzg1 := gg1.size
          have lit2'' := rd_kept lit2' hg1 (fun ad had => by cases had; simp; omega)
          refine hK.out _ _ ⟨_, (Blk.kept CBD.out gg1 (by simp; omega)).cell 2⟩ (fun hS => ?_)
          clear hK K
          (try simp only [Act.put, List.getElem_toArray, List.getElem_cons_zero, List.getElem_cons_succ, List.setIfInBounds_toArray, List.set_cons_zero, List.set_cons_succ])
          refine wpAnyH_ready (rs := [7]) (by as_aux_lemma => kernel_rfl) (by simp) ?_
          refine AllReadyH.cons rfl (fun K hK => ?_) AllReadyH.nil
          go_simp
          refine (l1Pick_any B b (T1 + 1) (D.heap.size) 3 [0, 1, 70] w1 hs1 (by omega) rfl (by omega) (by omega) (by omega) lit2'').mono ?_
          rintro e w2 ⟨q2, rfl, hq2, hs2, hg2⟩
          have gg2 := grown_trans gg1 hg2
          have hzg2 := gg2.size
          obtain ⟨r2, rfl, hr2⟩ : ∃ r2 : Nat, q2 = (r2 : Int) ∧ r2 ≤ 70 := by simp at hq2; exact ⟨q2.toNat, by omega, by omega⟩
          refine hK.out _ _ ⟨_, (Blk.kept CBD.out gg2 (by simp; omega)).cell 2⟩ (fun hS => ?_)
          clear hK K
          (try simp only [Act.put, List.getElem_toArray, List.getElem_cons_zero, List.getElem_cons_succ, List.setIfInBounds_toArray, List.set_cons_zero, List.set_cons_succ])
          refine wpAnyH_ready (rs := [8]) (by as_aux_lemma => kernel_rfl) (by simp) ?_
          refine AllReadyH.cons rfl (fun K hK => ?_) AllReadyH.nil
          rw [if_pos (by rfl)]
          refine wp_make_rd _ _ 22 rfl .u8 w2.heap.size 5 j0 Try.underlying22 hj hj0 hj1 r2 rfl rfl (by rw [hj2]; omega) (by unfold maxLen; omega) (Nat.le_refl _) ?_
          intro w3 hm3 hg3 hz3e
          have hz3a : w2.heap.size + 1 ≤ w3.heap.size := by omega
          clear hz3e
          have gg3 := grown_trans gg2 (grown_none (row := some b) hg3)
          have hs3 := Src.kept hs2 hg3 (by simp)
          have hMz : D.heap.size ≤ w2.heap.size := (gg2).size
          refine hK.out _ _ ⟨_, (Blk.kept CBD.out gg3 (by simp; omega)).cell 2⟩ (fun hS => ?_)
          clear hK K
          (try simp only [Act.put, List.getElem_toArray, List.getElem_cons_zero, List.getElem_cons_succ, List.setIfInBounds_toArray, List.set_cons_zero, List.set_cons_succ])
          refine wpAnyH_take (i := 9) (v := (.agg #[.int .i64 q1, .slice (some ⟨w2.heap.size, 0, none⟩) r2 r2])) rfl (by as_aux_lemma => kernel_rfl) (by as_aux_lemma => kernel_rfl) (by as_aux_lemma => kernel_rfl) (fun _ _ _ h => nomatch h.1) (Or.inl ⟨by kernel_rfl, ?_⟩) hS ?_
          · intro w hSw; (try dsimp only at hSw); go_simp
          simp only [Act.put, List.getElem_toArray, List.getElem_cons_zero, List.getElem_cons_succ, List.setIfInBounds_toArray, List.set_cons_zero, List.set_cons_succ]
          refine wpAnyH_ready (rs := [10]) (by as_aux_lemma => kernel_rfl) (by simp) ?_
          refine AllReadyH.cons rfl (fun K hK => ?_) AllReadyH.nil
          go_simp
          have ga4 : w3.grownBy (w3.alloc (Obj.cells #[Value.int .i64 q1, Value.slice (some ⟨w2.heap.size, 0, none⟩) r2 r2] 93)) (some b) := grown_none (World.grownBy_alloc _ _ none)
          have gb4 := grown_trans gg3 ga4
          have sa4 : Src (w3.alloc (Obj.cells #[Value.int .i64 q1, Value.slice (some ⟨w2.heap.size, 0, none⟩) r2 r2] 93)) B b ((T1 + 1) + 1) := Src.alloc hs3 _
          have hbN : Below w3.heap.size w3 (w3.alloc (Obj.cells #[Value.int .i64 q1, Value.slice (some ⟨w2.heap.size, 0, none⟩) r2 r2] 93)) := (Below.refl _ _).alloc (Nat.le_refl _) _
          have hrF : RowI .u8 5 (w3.alloc (Obj.cells #[Value.int .i64 q1, Value.slice (some ⟨w2.heap.size, 0, none⟩) r2 r2] 93)) w2.heap.size w3.heap.size (.slice (some ⟨w2.heap.size, 0, none⟩) r2 r2) (List.replicate r2 (0 : Int)).length (List.replicate r2 0) := by rw [List.length_replicate]; exact RowI.below (RowI.of hm3) hbN
          have hcl : ∀ j q, (bkE (q1, .slice (some ⟨w2.heap.size, 0, none⟩) r2 r2))[j]? = some q → (w3.alloc (Obj.cells #[Value.int .i64 q1, Value.slice (some ⟨w2.heap.size, 0, none⟩) r2 r2] 93)).cell? ((⟨w3.heap.size, 0, none⟩ : Addr).add j) = some q := fun j q hq => by
            rw [Addr.add_lit, Nat.zero_add, World.cell?_alloc_at _ _ _ _ rfl]
            simpa [bkE] using hq
          have hFz : (w3.alloc (Obj.cells #[Value.int .i64 q1, Value.slice (some ⟨w2.heap.size, 0, none⟩) r2 r2] 93)).heap.size = w3.heap.size + 1 := by simp
          have HRF := hid hrF
          have HCL := hid hcl
          clear hrF hcl hbN
          have S4 : ∃ s, (w3.alloc (Obj.cells #[Value.int .i64 q1, Value.slice (some ⟨w2.heap.size, 0, none⟩) r2 r2] 93)).cell? ⟨cb, 2, none⟩ = some s := ⟨_, (Blk.kept CBD.out gb4 (by simp; omega)).cell 2⟩
          refine hK.out _ _ S4 (fun hS => ?_)
          clear hK K
          (try simp only [Act.put, List.getElem_toArray, List.getElem_cons_zero, List.getElem_cons_succ, List.setIfInBounds_toArray, List.set_cons_zero, List.set_cons_succ])
          refine wpAnyH_ready (rs := [11]) (by as_aux_lemma => kernel_rfl) (by simp) ?_
          refine AllReadyH.cons rfl (fun K hK => ?_) AllReadyH.nil
          rw [if_pos (by rfl)]
          have hoF := RowB.chg ROWD.out (Chg.one gb4) (.inr (by omega))
          obtain ⟨us, hus⟩ : ∃ us : List Bv, (w3.alloc (Obj.cells #[Value.int .i64 q1, Value.slice (some ⟨w2.heap.size, 0, none⟩) r2 r2] 93)).ownsRow w.heap.size 93 2 (.slice a2 bs2.length c2) bs2.length (us.flatMap bkE) := by
            obtain ⟨us, q1', q2', q3', q4'⟩ := hoF
            exact ⟨us, q1'.1.2⟩
          refine wp_append_own _ _ _ 24 rfl w.heap.size 93 i0 (.agg #[.int .i64 0, .slice none 0 0]) 2 32 Try.underlying24 hi' hz0 hz1 hz2 rfl (by decide) _ bs2.length (us.flatMap bkE) rfl hus ⟨w3.heap.size, 0, none⟩ 1 1 (bkE (q1, .slice (some ⟨w2.heap.size, 0, none⟩) r2 r2)) rfl rfl HCL.out (bkE_one q1 (some ⟨w2.heap.size, 0, none⟩) r2 r2) (by unfold maxLen; omega) (by omega) (by omega) ?_
          intro v7 w7 ho7 hg7 _
          have lo7 := World.ownsRow.lt hus
          have hsn := RowB.snoc (num := q1) bu_ne hoF HRF.out (by omega) (by omega) (by omega) (fun us' h' => by rw [ownsRow_same h' hus]; exact ho7) hg7
          have cbF := Blk.kept CBD.out gb4 (by simp; omega)
          have rbF := Blk.kept RBD.out gb4 (by simp; omega)
          have cb7 := Blk.kept cbF hg7 (Blk.not_row cbF (by decide) hus)
          have rb7 := Blk.kept rbF hg7 (Blk.not_row rbF (by decide) hus)
          have gw7 := grown_mix (grown_trans GD.out gb4) hg7 (fun j hj => (lo7 j hj).1)
          have hs7 := Src.kept sa4 hg7 (fun j hj => ⟨by have := (lo7 j hj).1; omega, by have := (lo7 j hj).1; omega⟩)
          obtain ⟨a7, c7, hv7, -, -⟩ := hsn.shape
          subst hv7
          have x2 := cb7.cell 2
          have xf2 := cb7.frozen 2
          simp at x2
          have hz7 := hg7.size
          refine hK.out _ _ ⟨_, x2⟩ (fun hS => ?_)
          clear hK K
          (try simp only [Act.put, List.getElem_toArray, List.getElem_cons_zero, List.getElem_cons_succ, List.setIfInBounds_toArray, List.set_cons_zero, List.set_cons_succ])
          refine wpAnyH_take (i := 12) (v := (.pointer (some ⟨cb, 2, none⟩))) rfl (by as_aux_lemma => kernel_rfl) (by as_aux_lemma => kernel_rfl) (by as_aux_lemma => kernel_rfl) (fun _ _ _ h => nomatch h.1) (Or.inl ⟨by kernel_rfl, ?_⟩) hS ?_
          · intro w hSw; (try dsimp only at hSw); go_simp
          simp only [Act.put, List.getElem_toArray, List.getElem_cons_zero, List.getElem_cons_succ, List.setIfInBounds_toArray, List.set_cons_zero, List.set_cons_succ]
          refine wpAnyH_ready (rs := [13]) (by as_aux_lemma => kernel_rfl) (by simp) ?_
          refine AllReadyH.cons rfl (fun K hK => ?_) AllReadyH.nil
          go_simp
          have cb8 := cb7.set (i := 2) (.slice a7 (bs2.length + 1) c7)
          have hg8 := set_grown w7 cb 2 (.slice a7 (bs2.length + 1) c7)
          refine hK.out _ _ ⟨_, cb8.cell 2⟩ (fun hS => ?_)
          clear hK K
          (try simp only [Act.put, List.getElem_toArray, List.getElem_cons_zero, List.getElem_cons_succ, List.setIfInBounds_toArray, List.set_cons_zero, List.set_cons_succ])
          refine wpAnyH_done (by kernel_rfl) ?_ _
          refine ⟨rfl, D.heap.size + 1, D.heap.size, w2.heap.size, w3.heap.size, q1, r2, a7, c7, ?_, hr2, by simpa using cb8, Blk.kept rb7 hg8 (by simp; omega), RowB.mono (RowB.apart hsn cb7 (by decide) (by decide) hg8) (Nat.le_refl _) hg8.size, ?_, ?_⟩
          · simp only [Act.put, List.getElem_toArray, List.getElem_cons_zero, List.getElem_cons_succ, List.setIfInBounds_toArray, List.set_cons_zero, List.set_cons_succ]
          · exact hs7.kept hg8 (fun j hj => by cases hj; exact ⟨by omega, by omega⟩)
          · exact grown_mix gw7 hg8 (fun j hj => by cases hj; omega)
        · skip
          go_simp
          have ga1 : (D.alloc (Obj.cells #[Value.int .i64 0, Value.int .i64 1, Value.int .i64 70] 2)).grownBy ((D.alloc (Obj.cells #[Value.int .i64 0, Value.int .i64 1, Value.int .i64 70] 2)).alloc (Obj.cells #[Value.int .i64 0, Value.int .i64 401, Value.int .i64 (-1)] 2)) (some b) := grown_none (World.grownBy_alloc _ _ none)
          have lit2' := rd_kept lit2 ga1 (fun ad had => by cases had; simp; omega)
          have lit1 := lit_rd (k := .i64) (e := 2) (D.alloc (Obj.cells #[Value.int .i64 0, Value.int .i64 1, Value.int .i64 70] 2)) [0, 401, -1] 3 rfl (by simp [maxLen])
          have gb1 := grown_trans gb2 ga1
          have sa1 : Src ((D.alloc (Obj.cells #[Value.int .i64 0, Value.int .i64 1, Value.int .i64 70] 2)).alloc (Obj.cells #[Value.int .i64 0, Value.int .i64 401, Value.int .i64 (-1)] 2)) B b T1 := Src.alloc sa2 _
          have hza1 : D.heap.size ≤ (D.alloc (Obj.cells #[Value.int .i64 0, Value.int .i64 1, Value.int .i64 70] 2)).heap.size := (gb2).size
          have hzb1 : ((D.alloc (Obj.cells #[Value.int .i64 0, Value.int .i64 1, Value.int .i64 70] 2)).alloc (Obj.cells #[Value.int .i64 0, Value.int .i64 401, Value.int .i64 (-1)] 2)).heap.size = (D.alloc (Obj.cells #[Value.int .i64 0, Value.int .i64 1, Value.int .i64 70] 2)).heap.size + 1 := by simp
          (try simp only [World.size_alloc] at lit1 hza1 hzb1)
          refine hK.out _ _ ⟨_, (Blk.kept CBD.out gb1 (by simp; omega)).cell 2⟩ (fun hS => ?_)
          clear hK K
          (try simp only [Act.put, List.getElem_toArray, List.getElem_cons_zero, List.getElem_cons_succ, List.setIfInBounds_toArray, List.set_cons_zero, List.set_cons_succ])
          refine wpAnyH_ready (rs := [1, 4]) (by as_aux_lemma => kernel_rfl) (by simp) ?_
          refine AllReadyH.cons rfl (fun K hK => ?_) (AllReadyH.cons rfl (fun K hK => ?_) AllReadyH.nil)
          · skip
            have k2 : ((D.alloc (Obj.cells #[Value.int .i64 0, Value.int .i64 1, Value.int .i64 70] 2)).alloc (Obj.cells #[Value.int .i64 0, Value.int .i64 401, Value.int .i64 (-1)] 2)).cell? ⟨cb, 2, none⟩ = some (.slice a2 bs2.length c2) := by have q := (Blk.kept CBD.out gb1 (by simp; omega)).cell 2; simpa using q
            go_simp
            refine hK.out _ _ hS (fun hS => ?_)
            clear hK K
            (try simp only [Act.put, List.getElem_toArray, List.getElem_cons_zero, List.getElem_cons_succ, List.setIfInBounds_toArray, List.set_cons_zero, List.set_cons_succ])
            clear k2
            refine wpAnyH_ready (rs := [4]) (by as_aux_lemma => kernel_rfl) (by simp) ?_
            refine AllReadyH.cons rfl (fun K hK => ?_) AllReadyH.nil
            go_simp
            refine (l1Pick_any B b T1 (D.heap.size + 1) 3 [0, 401, -1] ((D.alloc (Obj.cells #[Value.int .i64 0, Value.int .i64 1, Value.int .i64 70] 2)).alloc (Obj.cells #[Value.int .i64 0, Value.int .i64 401, Value.int .i64 (-1)] 2)) sa1 (by omega) rfl (by omega) (by omega) (by omega) lit1).mono ?_
            rintro e w1 ⟨q1, rfl, hq1, hs1, hg1⟩
            have gg1 := grown_trans gb1 hg1
            have hzg1 := gg1.size
            have lit2'' := rd_kept lit2' hg1 (fun ad had => by cases had; simp; omega)
            refine hK.out _ _ ⟨_, (Blk.kept CBD.out gg1 (by simp; omega)).cell 2⟩ (fun hS => ?_)
            clear hK K
            (try simp only [Act.put, List.getElem_toArray, List.getElem_cons_zero, List.getElem_cons_succ, List.setIfInBounds_toArray, List.set_cons_zero, List.set_cons_succ])
            refine wpAnyH_ready (rs := [7]) (by as_aux_lemma => kernel_rfl) (by simp) ?_
            refine AllReadyH.cons rfl (fun K hK => ?_) AllReadyH.nil
            go_simp
            refine (l1Pick_any B b (T1 + 1) (D.heap.size) 3 [0, 1, 70] w1 hs1 (by omega) rfl (by omega) (by omega) (by omega) lit2'').mono ?_
            rintro e w2 ⟨q2, rfl, hq2, hs2, hg2⟩
            have gg2 := grown_trans gg1 hg2
            have hzg2 := gg2.size
            obtain ⟨r2, rfl, hr2⟩ : ∃ r2 : Nat, q2 = (r2 : Int) ∧ r2 ≤ 70 := by simp at hq2; exact ⟨q2.toNat, by omega, by omega⟩
            refine hK.out _ _ ⟨_, (Blk.kept CBD.out gg2 (by simp; omega)).cell 2⟩ (fun hS => ?_)
            clear hK K
            (try simp only [Act.put, List.getElem_toArray, List.getElem_cons_zero, List.getElem_cons_succ, List.setIfInBounds_toArray, List.set_cons_zero, List.set_cons_succ])
            refine wpAnyH_ready (rs := [8]) (by as_aux_lemma => kernel_rfl) (by simp) ?_
            refine AllReadyH.cons rfl (fun K hK => ?_) AllReadyH.nil
            rw [if_pos (by rfl)]
            refine wp_make_rd _ _ 22 rfl .u8 w2.heap.size 5 j0 Try.underlying22 hj hj0 hj1 r2 rfl rfl (by rw [hj2]; omega) (by unfold maxLen; omega) (Nat.le_refl _) ?_
            intro w3 hm3 hg3 hz3e
            have hz3a : w2.heap.size + 1 ≤ w3.heap.size := by omega
            clear hz3e
            have gg3 := grown_trans gg2 (grown_none (row := some b) hg3)
            have hs3 := Src.kept hs2 hg3 (by simp)
            have hMz : D.heap.size ≤ w2.heap.size := (gg2).size
            refine hK.out _ _ ⟨_, (Blk.kept CBD.out gg3 (by simp; omega)).cell 2⟩ (fun hS => ?_)
            clear hK K
            (try simp only [Act.put, List.getElem_toArray, List.getElem_cons_zero, List.getElem_cons_succ, List.setIfInBounds_toArray, List.set_cons_zero, List.set_cons_succ])
            refine wpAnyH_take (i := 9) (v := (.agg #[.int .i64 q1, .slice (some ⟨w2.heap.size, 0, none⟩) r2 r2])) rfl (by as_aux_lemma => kernel_rfl) (by as_aux_lemma => kernel_rfl) (by as_aux_lemma => kernel_rfl) (fun _ _ _ h => nomatch h.1) (Or.inl ⟨by kernel_rfl, ?_⟩) hS ?_
            · intro w hSw; (try dsimp only at hSw); go_simp
            simp only [Act.put, List.getElem_toArray, List.getElem_cons_zero, List.getElem_cons_succ, List.setIfInBounds_toArray, List.set_cons_zero, List.set_cons_succ]
            refine wpAnyH_ready (rs := [10]) (by as_aux_lemma => kernel_rfl) (by simp) ?_
            refine AllReadyH.cons rfl (fun K hK => ?_) AllReadyH.nil
            go_simp
            have ga4 : w3.grownBy (w3.alloc (Obj.cells #[Value.int .i64 q1, Value.slice (some ⟨w2.heap.size, 0, none⟩) r2 r2] 93)) (some b) := grown_none (World.grownBy_alloc _ _ none)
            have gb4 := grown_trans gg3 ga4
            have sa4 : Src (w3.alloc (Obj.cells #[Value.int .i64 q1, Value.slice (some ⟨w2.heap.size, 0, none⟩) r2 r2] 93)) B b ((T1 + 1) + 1) := Src.alloc hs3 _
            have hbN : Below w3.heap.size w3 (w3.alloc (Obj.cells #[Value.int .i64 q1, Value.slice (some ⟨w2.heap.size, 0, none⟩) r2 r2] 93)) := (Below.refl _ _).alloc (Nat.le_refl _) _
            have hrF : RowI .u8 5 (w3.alloc (Obj.cells #[Value.int .i64 q1, Value.slice (some ⟨w2.heap.size, 0, none⟩) r2 r2] 93)) w2.heap.size w3.heap.size (.slice (some ⟨w2.heap.size, 0, none⟩) r2 r2) (List.replicate r2 (0 : Int)).length (List.replicate r2 0) := by rw [List.length_replicate]; exact RowI.below (RowI.of hm3) hbN
            have hcl : ∀ j q, (bkE (q1, .slice (some ⟨w2.heap.size, 0, none⟩) r2 r2))[j]? = some q → (w3.alloc (Obj.cells #[Value.int .i64 q1, Value.slice (some ⟨w2.heap.size, 0, none⟩) r2 r2] 93)).cell? ((⟨w3.heap.size, 0, none⟩ : Addr).add j) = some q := fun j q hq => by
              rw [Addr.add_lit, Nat.zero_add, World.cell?_alloc_at _ _ _ _ rfl]
              simpa [bkE] using hq
            have hFz : (w3.alloc (Obj.cells #[Value.int .i64 q1, Value.slice (some ⟨w2.heap.size, 0, none⟩) r2 r2] 93)).heap.size = w3.heap.size + 1 := by simp
            have HRF := hid hrF
            have HCL := hid hcl
            clear hrF hcl hbN
            have S4 : ∃ s, (w3.alloc (Obj.cells #[Value.int .i64 q1, Value.slice (some ⟨w2.heap.size, 0, none⟩) r2 r2] 93)).cell? ⟨cb, 2, none⟩ = some s := ⟨_, (Blk.kept CBD.out gb4 (by simp; omega)).cell 2⟩
            refine hK.out _ _ S4 (fun hS => ?_)
            clear hK K
            (try simp only [Act.put, List.getElem_toArray, List.getElem_cons_zero, List.getElem_cons_succ, List.setIfInBounds_toArray, List.set_cons_zero, List.set_cons_succ])
            refine wpAnyH_ready (rs := [11]) (by as_aux_lemma => kernel_rfl) (by simp) ?_
            refine AllReadyH.cons rfl (fun K hK => ?_) AllReadyH.nil
            rw [if_pos (by rfl)]
            have hoF := RowB.chg ROWD.out (Chg.one gb4) (.inr (by omega))
            obtain ⟨us, hus⟩ : ∃ us : List Bv, (w3.alloc (Obj.cells #[Value.int .i64 q1, Value.slice (some ⟨w2.heap.size, 0, none⟩) r2 r2] 93)).ownsRow w.heap.size 93 2 (.slice a2 bs2.length c2) bs2.length (us.flatMap bkE) := by
              obtain ⟨us, q1', q2', q3', q4'⟩ := hoF
              exact ⟨us, q1'.1.2⟩
            refine wp_append_own _ _ _ 24 rfl w.heap.size 93 i0 (.agg #[.int .i64 0, .slice none 0 0]) 2 32 Try.underlying24 hi' hz0 hz1 hz2 rfl (by decide) _ bs2.length (us.flatMap bkE) rfl hus ⟨w3.heap.size, 0, none⟩ 1 1 (bkE (q1, .slice (some ⟨w2.heap.size, 0, none⟩) r2 r2)) rfl rfl HCL.out (bkE_one q1 (some ⟨w2.heap.size, 0, none⟩) r2 r2) (by unfold maxLen; omega) (by omega) (by omega) ?_
            intro v7 w7 ho7 hg7 _
            have lo7 := World.ownsRow.lt hus
            have hsn := RowB.snoc (num := q1) bu_ne hoF HRF.out (by omega) (by omega) (by omega) (fun us' h' => by rw [ownsRow_same h' hus]; exact ho7) hg7
            have cbF := Blk.kept CBD.out gb4 (by simp; omega)
            have rbF := Blk.kept RBD.out gb4 (by simp; omega)
            have cb7 := Blk.kept cbF hg7 (Blk.not_row cbF (by decide) hus)
            have rb7 := Blk.kept rbF hg7 (Blk.not_row rbF (by decide) hus)
            have gw7 := grown_mix (grown_trans GD.out gb4) hg7 (fun j hj => (lo7 j hj).1)
            have hs7 := Src.kept sa4 hg7 (fun j hj => ⟨by have := (lo7 j hj).1; omega, by have := (lo7 j hj).1; omega⟩)
            obtain ⟨a7, c7, hv7, -, -⟩ := hsn.shape
            subst hv7
            have x2 := cb7.cell 2
            have xf2 := cb7.frozen 2
            simp at x2
            have hz7 := hg7.size
            refine hK.out _ _ ⟨_, x2⟩ (fun hS => ?_)
            clear hK K
            (try simp only [Act.put, List.getElem_toArray, List.getElem_cons_zero, List.getElem_cons_succ, List.setIfInBounds_toArray, List.set_cons_zero, List.set_cons_succ])
            refine wpAnyH_take (i := 12) (v := (.pointer (some ⟨cb, 2, none⟩))) rfl (by as_aux_lemma => kernel_rfl) (by as_aux_lemma => kernel_rfl) (by as_aux_lemma => kernel_rfl) (fun _ _ _ h => nomatch h.1) (Or.inl ⟨by kernel_rfl, ?_⟩) hS ?_
            · intro w hSw; (try dsimp only at hSw); go_simp
            simp only [Act.put, List.getElem_toArray, List.getElem_cons_zero, List.getElem_cons_succ, List.setIfInBounds_toArray, List.set_cons_zero, List.set_cons_succ]
            refine wpAnyH_ready (rs := [13]) (by as_aux_lemma => kernel_rfl) (by simp) ?_
            refine AllReadyH.cons rfl (fun K hK => ?_) AllReadyH.nil
            go_simp
            have cb8 := cb7.set (i := 2) (.slice a7 (bs2.length + 1) c7)
            have hg8 := set_grown w7 cb 2 (.slice a7 (bs2.length + 1) c7)
            refine hK.out _ _ ⟨_, cb8.cell 2⟩ (fun hS => ?_)
            clear hK K
            (try simp only [Act.put, List.getElem_toArray, List.getElem_cons_zero, List.getElem_cons_succ, List.setIfInBounds_toArray, List.set_cons_zero, List.set_cons_succ])
            refine wpAnyH_done (by kernel_rfl) ?_ _
            refine ⟨rfl, D.heap.size + 1, D.heap.size, w2.heap.size, w3.heap.size, q1, r2, a7, c7, ?_, hr2, by simpa using cb8, Blk.kept rb7 hg8 (by simp; omega), RowB.mono (RowB.apart hsn cb7 (by decide) (by decide) hg8) (Nat.le_refl _) hg8.size, ?_, ?_⟩
            · simp only [Act.put, List.getElem_toArray, List.getElem_cons_zero, List.getElem_cons_succ, List.setIfInBounds_toArray, List.set_cons_zero, List.set_cons_succ]
            · exact hs7.kept hg8 (fun j hj => by cases hj; exact ⟨by omega, by omega⟩)
            · exact grown_mix gw7 hg8 (fun j hj => by cases hj; omega)
          · skip
            go_simp
            refine (l1Pick_any B b T1 (D.heap.size + 1) 3 [0, 401, -1] ((D.alloc (Obj.cells #[Value.int .i64 0, Value.int .i64 1, Value.int .i64 70] 2)).alloc (Obj.cells #[Value.int .i64 0, Value.int .i64 401, Value.int .i64 (-1)] 2)) sa1 (by omega) rfl (by omega) (by omega) (by omega) lit1).mono ?_
            rintro e w1 ⟨q1, rfl, hq1, hs1, hg1⟩
            have gg1 := grown_trans gb1 hg1
            have hzg1 := gg1.size
            have lit2'' := rd_kept lit2' hg1 (fun ad had => by cases had; simp; omega)
            refine hK.out _ _ ⟨_, (Blk.kept CBD.out gg1 (by simp; omega)).cell 2⟩ (fun hS => ?_)
            clear hK K
            (try simp only [Act.put, List.getElem_toArray, List.getElem_cons_zero, List.getElem_cons_succ, List.setIfInBounds_toArray, List.set_cons_zero, List.set_cons_succ])
            refine wpAnyH_ready (rs := [1, 7]) (by as_aux_lemma => kernel_rfl) (by simp) ?_
            refine AllReadyH.cons rfl (fun K hK => ?_) (AllReadyH.cons rfl (fun K hK => ?_) AllReadyH.nil)
            · skip
              have k2 : w1.cell? ⟨cb, 2, none⟩ = some (.slice a2 bs2.length c2) := by have q := (Blk.kept CBD.out gg1 (by simp; omega)).cell 2; simpa using q
              go_simp
              refine hK.out _ _ hS (fun hS => ?_)
              clear hK K
              (try simp only [Act.put, List.getElem_toArray, List.getElem_cons_zero, List.getElem_cons_succ, List.setIfInBounds_toArray, List.set_cons_zero, List.set_cons_succ])
              clear k2
              refine wpAnyH_ready (rs := [7]) (by as_aux_lemma => kernel_rfl) (by simp) ?_
              refine AllReadyH.cons rfl (fun K hK => ?_) AllReadyH.nil
              go_simp
              refine (l1Pick_any B b (T1 + 1) (D.heap.size) 3 [0, 1, 70] w1 hs1 (by omega) rfl (by omega) (by omega) (by omega) lit2'').mono ?_
              rintro e w2 ⟨q2, rfl, hq2, hs2, hg2⟩
              have gg2 := grown_trans gg1 hg2
              have hzg2 := gg2.size
              obtain ⟨r2, rfl, hr2⟩ : ∃ r2 : Nat, q2 = (r2 : Int) ∧ r2 ≤ 70 := by simp at hq2; exact ⟨q2.toNat, by omega, by omega⟩
              refine hK.out _ _ ⟨_, (Blk.kept CBD.out gg2 (by simp; omega)).cell 2⟩ (fun hS => ?_)
              clear hK K
              (try simp only [Act.put, List.getElem_toArray, List.getElem_cons_zero, List.getElem_cons_succ, List.setIfInBounds_toArray, List.set_cons_zero, List.set_cons_succ])
              refine wpAnyH_ready (rs := [8]) (by as_aux_lemma => kernel_rfl) (by simp) ?_
              refine AllReadyH.cons rfl (fun K hK => ?_) AllReadyH.nil
              rw [if_pos (by rfl)]
              refine wp_make_rd _ _ 22 rfl .u8 w2.heap.size 5 j0 Try.underlying22 hj hj0 hj1 r2 rfl rfl (by rw [hj2]; omega) (by unfold maxLen; omega) (Nat.le_refl _) ?_
              intro w3 hm3 hg3 hz3e
              have hz3a : w2.heap.size + 1 ≤ w3.heap.size := by omega
              clear hz3e
              have gg3 := grown_trans gg2 (grown_none (row := some b) hg3)
              have hs3 := Src.kept hs2 hg3 (by simp)
              have hMz : D.heap.size ≤ w2.heap.size := (gg2).size
              refine hK.out _ _ ⟨_, (Blk.kept CBD.out gg3 (by simp; omega)).cell 2⟩ (fun hS => ?_)
              clear hK K
              (try simp only [Act.put, List.getElem_toArray, List.getElem_cons_zero, List.getElem_cons_succ, List.setIfInBounds_toArray, List.set_cons_zero, List.set_cons_succ])
              refine wpAnyH_take (i := 9) (v := (.agg #[.int .i64 q1, .slice (some ⟨w2.heap.size, 0, none⟩) r2 r2])) rfl (by as_aux_lemma => kernel_rfl) (by as_aux_lemma => kernel_rfl) (by as_aux_lemma => kernel_rfl) (fun _ _ _ h => nomatch h.1) (Or.inl ⟨by kernel_rfl, ?_⟩) hS ?_
              · intro w hSw; (try dsimp only at hSw); go_simp
              simp only [Act.put, List.getElem_toArray, List.getElem_cons_zero, List.getElem_cons_succ, List.setIfInBounds_toArray, List.set_cons_zero, List.set_cons_succ]
              refine wpAnyH_ready (rs := [10]) (by as_aux_lemma => kernel_rfl) (by simp) ?_
              refine AllReadyH.cons rfl (fun K hK => ?_) AllReadyH.nil
              go_simp
              have ga4 : w3.grownBy (w3.alloc (Obj.cells #[Value.int .i64 q1, Value.slice (some ⟨w2.heap.size, 0, none⟩) r2 r2] 93)) (some b) := grown_none (World.grownBy_alloc _ _ none)
              have gb4 := grown_trans gg3 ga4
              have sa4 : Src (w3.alloc (Obj.cells #[Value.int .i64 q1, Value.slice (some ⟨w2.heap.size, 0, none⟩) r2 r2] 93)) B b ((T1 + 1) + 1) := Src.alloc hs3 _
              have hbN : Below w3.heap.size w3 (w3.alloc (Obj.cells #[Value.int .i64 q1, Value.slice (some ⟨w2.heap.size, 0, none⟩) r2 r2] 93)) := (Below.refl _ _).alloc (Nat.le_refl _) _
              have hrF : RowI .u8 5 (w3.alloc (Obj.cells #[Value.int .i64 q1, Value.slice (some ⟨w2.heap.size, 0, none⟩) r2 r2] 93)) w2.heap.size w3.heap.size (.slice (some ⟨w2.heap.size, 0, none⟩) r2 r2) (List.replicate r2 (0 : Int)).length (List.replicate r2 0) := by rw [List.length_replicate]; exact RowI.below (RowI.of hm3) hbN
              have hcl : ∀ j q, (bkE (q1, .slice (some ⟨w2.heap.size, 0, none⟩) r2 r2))[j]? = some q → (w3.alloc (Obj.cells #[Value.int .i64 q1, Value.slice (some ⟨w2.heap.size, 0, none⟩) r2 r2] 93)).cell? ((⟨w3.heap.size, 0, none⟩ : Addr).add j) = some q := fun j q hq => by
                rw [Addr.add_lit, Nat.zero_add, World.cell?_alloc_at _ _ _ _ rfl]
                simpa [bkE] using hq
              have hFz : (w3.alloc (Obj.cells #[Value.int .i64 q1, Value.slice (some ⟨w2.heap.size, 0, none⟩) r2 r2] 93)).heap.size = w3.heap.size + 1 := by simp
              have HRF := hid hrF
              have HCL := hid hcl
              clear hrF hcl hbN
              have S4 : ∃ s, (w3.alloc (Obj.cells #[Value.int .i64 q1, Value.slice (some ⟨w2.heap.size, 0, none⟩) r2 r2] 93)).cell? ⟨cb, 2, none⟩ = some s := ⟨_, (Blk.kept CBD.out gb4 (by simp; omega)).cell 2⟩
              refine hK.out _ _ S4 (fun hS => ?_)
              clear hK K
              (try simp only [Act.put, List.getElem_toArray, List.getElem_cons_zero, List.getElem_cons_succ, List.setIfInBounds_toArray, List.set_cons_zero, List.set_cons_succ])
              refine wpAnyH_ready (rs := [11]) (by as_aux_lemma => kernel_rfl) (by simp) ?_
              refine AllReadyH.cons rfl (fun K hK => ?_) AllReadyH.nil
              rw [if_pos (by rfl)]
              have hoF := RowB.chg ROWD.out (Chg.one gb4) (.inr (by omega))
              obtain ⟨us, hus⟩ : ∃ us : List Bv, (w3.alloc (Obj.cells #[Value.int .i64 q1, Value.slice (some ⟨w2.heap.size, 0, none⟩) r2 r2] 93)).ownsRow w.heap.size 93 2 (.slice a2 bs2.length c2) bs2.length (us.flatMap bkE) := by
                obtain ⟨us, q1', q2', q3', q4'⟩ := hoF
                exact ⟨us, q1'.1.2⟩
              refine wp_append_own _ _ _ 24 rfl w.heap.size 93 i0 (.agg #[.int .i64 0, .slice none 0 0]) 2 32 Try.underlying24 hi' hz0 hz1 hz2 rfl (by decide) _ bs2.length (us.flatMap bkE) rfl hus ⟨w3.heap.size, 0, none⟩ 1 1 (bkE (q1, .slice (some ⟨w2.heap.size, 0, none⟩) r2 r2)) rfl rfl HCL.out (bkE_one q1 (some ⟨w2.heap.size, 0, none⟩) r2 r2) (by unfold maxLen; omega) (by omega) (by omega) ?_
              intro v7 w7 ho7 hg7 _
              have lo7 := World.ownsRow.lt hus
              have hsn := RowB.snoc (num := q1) bu_ne hoF HRF.out (by omega) (by omega) (by omega) (fun us' h' => by rw [ownsRow_same h' hus]; exact ho7) hg7
              have cbF := Blk.kept CBD.out gb4 (by simp; omega)
              have rbF := Blk.kept RBD.out gb4 (by simp; omega)
              have cb7 := Blk.kept cbF hg7 (Blk.not_row cbF (by decide) hus)
              have rb7 := Blk.kept rbF hg7 (Blk.not_row rbF (by decide) hus)
              have gw7 := grown_mix (grown_trans GD.out gb4) hg7 (fun j hj => (lo7 j hj).1)
              have hs7 := Src.kept sa4 hg7 (fun j hj => ⟨by have := (lo7 j hj).1; omega, by have := (lo7 j hj).1; omega⟩)
              obtain ⟨a7, c7, hv7, -, -⟩ := hsn.shape
              subst hv7
              have x2 := cb7.cell 2
              have xf2 := cb7.frozen 2
              simp at x2
              have hz7 := hg7.size
              refine hK.out _ _ ⟨_, x2⟩ (fun hS => ?_)
              clear hK K
              (try simp only [Act.put, List.getElem_toArray, List.getElem_cons_zero, List.getElem_cons_succ, List.setIfInBounds_toArray, List.set_cons_zero, List.set_cons_succ])
              refine wpAnyH_take (i := 12) (v := (.pointer (some ⟨cb, 2, none⟩))) rfl (by as_aux_lemma => kernel_rfl) (by as_aux_lemma => kernel_rfl) (by as_aux_lemma => kernel_rfl) (fun _ _ _ h => nomatch h.1) (Or.inl ⟨by kernel_rfl, ?_⟩) hS ?_
              · intro w hSw; (try dsimp only at hSw); go_simp
              simp only [Act.put, List.getElem_toArray, List.getElem_cons_zero, List.getElem_cons_succ, List.setIfInBounds_toArray, List.set_cons_zero, List.set_cons_succ]
              refine wpAnyH_ready (rs := [13]) (by as_aux_lemma => kernel_rfl) (by simp) ?_
              refine AllReadyH.cons rfl (fun K hK => ?_) AllReadyH.nil
              go_simp
              have cb8 := cb7.set (i := 2) (.slice a7 (bs2.length + 1) c7)
              have hg8 := set_grown w7 cb 2 (.slice a7 (bs2.length + 1) c7)
              refine hK.out _ _ ⟨_, cb8.cell 2⟩ (fun hS => ?_)
              clear hK K
              (try simp only [Act.put, List.getElem_toArray, List.getElem_cons_zero, List.getElem_cons_succ, List.setIfInBounds_toArray, List.set_cons_zero, List.set_cons_succ])
              refine wpAnyH_done (by kernel_rfl) ?_ _
              refine ⟨rfl, D.heap.size + 1, D.heap.size, w2.heap.size, w3.heap.size, q1, r2, a7, c7, ?_, hr2, by simpa using cb8, Blk.kept rb7 hg8 (by simp; omega), RowB.mono (RowB.apart hsn cb7 (by decide) (by decide) hg8) (Nat.le_refl _) hg8.size, ?_, ?_⟩
              · simp only [Act.put, List.getElem_toArray, List.getElem_cons_zero, List.getElem_cons_succ, List.setIfInBounds_toArray, List.set_cons_zero, List.set_cons_succ]
              · exact hs7.kept hg8 (fun j hj => by cases hj; exact ⟨by omega, by omega⟩)
              · exact grown_mix gw7 hg8 (fun j hj => by cases hj; omega)
            · skip
              go_simp
              refine (l1Pick_any B b (T1 + 1) (D.heap.size) 3 [0, 1, 70] w1 hs1 (by omega) rfl (by omega) (by omega) (by omega) lit2'').mono ?_
              rintro e w2 ⟨q2, rfl, hq2, hs2, hg2⟩
              have gg2 := grown_trans gg1 hg2
              have hzg2 := gg2.size
              obtain ⟨r2, rfl, hr2⟩ : ∃ r2 : Nat, q2 = (r2 : Int) ∧ r2 ≤ 70 := by simp at hq2; exact ⟨q2.toNat, by omega, by omega⟩
              refine hK.out _ _ ⟨_, (Blk.kept CBD.out gg2 (by simp; omega)).cell 2⟩ (fun hS => ?_)
              clear hK K
              (try simp only [Act.put, List.getElem_toArray, List.getElem_cons_zero, List.getElem_cons_succ, List.setIfInBounds_toArray, List.set_cons_zero, List.set_cons_succ])
              refine wpAnyH_ready (rs := [1, 8]) (by as_aux_lemma => kernel_rfl) (by simp) ?_
              refine AllReadyH.cons rfl (fun K hK => ?_) (AllReadyH.cons rfl (fun K hK => ?_) AllReadyH.nil)
              · skip
                have k2 : w2.cell? ⟨cb, 2, none⟩ = some (.slice a2 bs2.length c2) := by have q := (Blk.kept CBD.out gg2 (by simp; omega)).cell 2; simpa using q
                go_simp
                refine hK.out _ _ hS (fun hS => ?_)
                clear hK K
                (try simp only [Act.put, List.getElem_toArray, List.getElem_cons_zero, List.getElem_cons_succ, List.setIfInBounds_toArray, List.set_cons_zero, List.set_cons_succ])
                clear k2
                refine wpAnyH_ready (rs := [8]) (by as_aux_lemma => kernel_rfl) (by simp) ?_
                refine AllReadyH.cons rfl (fun K hK => ?_) AllReadyH.nil
                rw [if_pos (by rfl)]
                refine wp_make_rd _ _ 22 rfl .u8 w2.heap.size 5 j0 Try.underlying22 hj hj0 hj1 r2 rfl rfl (by rw [hj2]; omega) (by unfold maxLen; omega) (Nat.le_refl _) ?_
                intro w3 hm3 hg3 hz3e
                have hz3a : w2.heap.size + 1 ≤ w3.heap.size := by omega
                clear hz3e
                have gg3 := grown_trans gg2 (grown_none (row := some b) hg3)
                have hs3 := Src.kept hs2 hg3 (by simp)
                have hMz : D.heap.size ≤ w2.heap.size := (gg2).size
                refine hK.out _ _ ⟨_, (Blk.kept CBD.out gg3 (by simp; omega)).cell 2⟩ (fun hS => ?_)
                clear hK K
                (try simp only [Act.put, List.getElem_toArray, List.getElem_cons_zero, List.getElem_cons_succ, List.setIfInBounds_toArray, List.set_cons_zero, List.set_cons_succ])
                refine wpAnyH_take (i := 9) (v := (.agg #[.int .i64 q1, .slice (some ⟨w2.heap.size, 0, none⟩) r2 r2])) rfl (by as_aux_lemma => kernel_rfl) (by as_aux_lemma => kernel_rfl) (by as_aux_lemma => kernel_rfl) (fun _ _ _ h => nomatch h.1) (Or.inl ⟨by kernel_rfl, ?_⟩) hS ?_
                · intro w hSw; (try dsimp only at hSw); go_simp
                simp only [Act.put, List.getElem_toArray, List.getElem_cons_zero, List.getElem_cons_succ, List.setIfInBounds_toArray, List.set_cons_zero, List.set_cons_succ]
                refine wpAnyH_ready (rs := [10]) (by as_aux_lemma => kernel_rfl) (by simp) ?_
                refine AllReadyH.cons rfl (fun K hK => ?_) AllReadyH.nil
                go_simp
                have ga4 : w3.grownBy (w3.alloc (Obj.cells #[Value.int .i64 q1, Value.slice (some ⟨w2.heap.size, 0, none⟩) r2 r2] 93)) (some b) := grown_none (World.grownBy_alloc _ _ none)
                have gb4 := grown_trans gg3 ga4
                have sa4 : Src (w3.alloc (Obj.cells #[Value.int .i64 q1, Value.slice (some ⟨w2.heap.size, 0, none⟩) r2 r2] 93)) B b ((T1 + 1) + 1) := Src.alloc hs3 _
                have hbN : Below w3.heap.size w3 (w3.alloc (Obj.cells #[Value.int .i64 q1, Value.slice (some ⟨w2.heap.size, 0, none⟩) r2 r2] 93)) := (Below.refl _ _).alloc (Nat.le_refl _) _
                have hrF : RowI .u8 5 (w3.alloc (Obj.cells #[Value.int .i64 q1, Value.slice (some ⟨w2.heap.size, 0, none⟩) r2 r2] 93)) w2.heap.size w3.heap.size (.slice (some ⟨w2.heap.size, 0, none⟩) r2 r2) (List.replicate r2 (0 : Int)).length (List.replicate r2 0) := by rw [List.length_replicate]; exact RowI.below (RowI.of hm3) hbN
                have hcl : ∀ j q, (bkE (q1, .slice (some ⟨w2.heap.size, 0, none⟩) r2 r2))[j]? = some q → (w3.alloc (Obj.cells #[Value.int .i64 q1, Value.slice (some ⟨w2.heap.size, 0, none⟩) r2 r2] 93)).cell? ((⟨w3.heap.size, 0, none⟩ : Addr).add j) = some q := fun j q hq => by
                  rw [Addr.add_lit, Nat.zero_add, World.cell?_alloc_at _ _ _ _ rfl]
                  simpa [bkE] using hq
                have hFz : (w3.alloc (Obj.cells #[Value.int .i64 q1, Value.slice (some ⟨w2.heap.size, 0, none⟩) r2 r2] 93)).heap.size = w3.heap.size + 1 := by simp
                have HRF := hid hrF
                have HCL := hid hcl
                clear hrF hcl hbN
                have S4 : ∃ s, (w3.alloc (Obj.cells #[Value.int .i64 q1, Value.slice (some ⟨w2.heap.size, 0, none⟩) r2 r2] 93)).cell? ⟨cb, 2, none⟩ = some s := ⟨_, (Blk.kept CBD.out gb4 (by simp; omega)).cell 2⟩
                refine hK.out _ _ S4 (fun hS => ?_)
                clear hK K
                (try simp only [Act.put, List.getElem_toArray, List.getElem_cons_zero, List.getElem_cons_succ, List.setIfInBounds_toArray, List.set_cons_zero, List.set_cons_succ])
                refine wpAnyH_ready (rs := [11]) (by as_aux_lemma => kernel_rfl) (by simp) ?_
                refine AllReadyH.cons rfl (fun K hK => ?_) AllReadyH.nil
                rw [if_pos (by rfl)]
                have hoF := RowB.chg ROWD.out (Chg.one gb4) (.inr (by omega))
                obtain ⟨us, hus⟩ : ∃ us : List Bv, (w3.alloc (Obj.cells #[Value.int .i64 q1, Value.slice (some ⟨w2.heap.size, 0, none⟩) r2 r2] 93)).ownsRow w.heap.size 93 2 (.slice a2 bs2.length c2) bs2.length (us.flatMap bkE) := by
                  obtain ⟨us, q1', q2', q3', q4'⟩ := hoF
                  exact ⟨us, q1'.1.2⟩
                refine wp_append_own _ _ _ 24 rfl w.heap.size 93 i0 (.agg #[.int .i64 0, .slice none 0 0]) 2 32 Try.underlying24 hi' hz0 hz1 hz2 rfl (by decide) _ bs2.length (us.flatMap bkE) rfl hus ⟨w3.heap.size, 0, none⟩ 1 1 (bkE (q1, .slice (some ⟨w2.heap.size, 0, none⟩) r2 r2)) rfl rfl HCL.out (bkE_one q1 (some ⟨w2.heap.size, 0, none⟩) r2 r2) (by unfold maxLen; omega) (by omega) (by omega) ?_
                intro v7 w7 ho7 hg7 _
                have lo7 := World.ownsRow.lt hus
                have hsn := RowB.snoc (num := q1) bu_ne hoF HRF.out (by omega) (by omega) (by omega) (fun us' h' => by rw [ownsRow_same h' hus]; exact ho7) hg7
                have cbF := Blk.kept CBD.out gb4 (by simp; omega)
                have rbF := Blk.kept RBD.out gb4 (by simp; omega)
                have cb7 := Blk.kept cbF hg7 (Blk.not_row cbF (by decide) hus)
                have rb7 := Blk.kept rbF hg7 (Blk.not_row rbF (by decide) hus)
                have gw7 := grown_mix (grown_trans GD.out gb4) hg7 (fun j hj => (lo7 j hj).1)
                have hs7 := Src.kept sa4 hg7 (fun j hj => ⟨by have := (lo7 j hj).1; omega, by have := (lo7 j hj).1; omega⟩)
                obtain ⟨a7, c7, hv7, -, -⟩ := hsn.shape
                subst hv7
                have x2 := cb7.cell 2
                have xf2 := cb7.frozen 2
                simp at x2
                have hz7 := hg7.size
                refine hK.out _ _ ⟨_, x2⟩ (fun hS => ?_)
                clear hK K
                (try simp only [Act.put, List.getElem_toArray, List.getElem_cons_zero, List.getElem_cons_succ, List.setIfInBounds_toArray, List.set_cons_zero, List.set_cons_succ])
                refine wpAnyH_take (i := 12) (v := (.pointer (some ⟨cb, 2, none⟩))) rfl (by as_aux_lemma => kernel_rfl) (by as_aux_lemma => kernel_rfl) (by as_aux_lemma => kernel_rfl) (fun _ _ _ h => nomatch h.1) (Or.inl ⟨by kernel_rfl, ?_⟩) hS ?_
                · intro w hSw; (try dsimp only at hSw); go_simp
                simp only [Act.put, List.getElem_toArray, List.getElem_cons_zero, List.getElem_cons_succ, List.setIfInBounds_toArray, List.set_cons_zero, List.set_cons_succ]
                refine wpAnyH_ready (rs := [13]) (by as_aux_lemma => kernel_rfl) (by simp) ?_
                refine AllReadyH.cons rfl (fun K hK => ?_) AllReadyH.nil
                go_simp
                have cb8 := cb7.set (i := 2) (.slice a7 (bs2.length + 1) c7)
                have hg8 := set_grown w7 cb 2 (.slice a7 (bs2.length + 1) c7)
                refine hK.out _ _ ⟨_, cb8.cell 2⟩ (fun hS => ?_)
                clear hK K
                (try simp only [Act.put, List.getElem_toArray, List.getElem_cons_zero, List.getElem_cons_succ, List.setIfInBounds_toArray, List.set_cons_zero, List.set_cons_succ])
                refine wpAnyH_done (by kernel_rfl) ?_ _
                refine ⟨rfl, D.heap.size + 1, D.heap.size, w2.heap.size, w3.heap.size, q1, r2, a7, c7, ?_, hr2, by simpa using cb8, Blk.kept rb7 hg8 (by simp; omega), RowB.mono (RowB.apart hsn cb7 (by decide) (by decide) hg8) (Nat.le_refl _) hg8.size, ?_, ?_⟩
                · simp only [Act.put, List.getElem_toArray, List.getElem_cons_zero, List.getElem_cons_succ, List.setIfInBounds_toArray, List.set_cons_zero, List.set_cons_succ]
                · exact hs7.kept hg8 (fun j hj => by cases hj; exact ⟨by omega, by omega⟩)
                · exact grown_mix gw7 hg8 (fun j hj => by cases hj; omega)
              · skip
                rw [if_pos (by rfl)]
                refine wp_make_rd _ _ 22 rfl .u8 w2.heap.size 5 j0 Try.underlying22 hj hj0 hj1 r2 rfl rfl (by rw [hj2]; omega) (by unfold maxLen; omega) (Nat.le_refl _) ?_
                intro w3 hm3 hg3 hz3e
                have hz3a : w2.heap.size + 1 ≤ w3.heap.size := by omega
                clear hz3e
                have gg3 := grown_trans gg2 (grown_none (row := some b) hg3)
                have hs3 := Src.kept hs2 hg3 (by simp)
                have hMz : D.heap.size ≤ w2.heap.size := (gg2).size
                refine hK.out _ _ ⟨_, (Blk.kept CBD.out gg3 (by simp; omega)).cell 2⟩ (fun hS => ?_)
                clear hK K
                (try simp only [Act.put, List.getElem_toArray, List.getElem_cons_zero, List.getElem_cons_succ, List.setIfInBounds_toArray, List.set_cons_zero, List.set_cons_succ])
                refine wpAnyH_take (i := 9) (v := (.agg #[.int .i64 q1, .slice (some ⟨w2.heap.size, 0, none⟩) r2 r2])) rfl (by as_aux_lemma => kernel_rfl) (by as_aux_lemma => kernel_rfl) (by as_aux_lemma => kernel_rfl) (fun _ _ _ h => nomatch h.1) (Or.inl ⟨by kernel_rfl, ?_⟩) hS ?_
                · intro w hSw; (try dsimp only at hSw); go_simp
                simp only [Act.put, List.getElem_toArray, List.getElem_cons_zero, List.getElem_cons_succ, List.setIfInBounds_toArray, List.set_cons_zero, List.set_cons_succ]
                refine wpAnyH_ready (rs := [1, 10]) (by as_aux_lemma => kernel_rfl) (by simp) ?_
                refine AllReadyH.cons rfl (fun K hK => ?_) (AllReadyH.cons rfl (fun K hK => ?_) AllReadyH.nil)
                · skip
                  have k2 : w3.cell? ⟨cb, 2, none⟩ = some (.slice a2 bs2.length c2) := by have q := (Blk.kept CBD.out gg3 (by simp; omega)).cell 2; simpa using q
                  go_simp
                  refine hK.out _ _ hS (fun hS => ?_)
                  clear hK K
                  (try simp only [Act.put, List.getElem_toArray, List.getElem_cons_zero, List.getElem_cons_succ, List.setIfInBounds_toArray, List.set_cons_zero, List.set_cons_succ])
                  clear k2
                  refine wpAnyH_ready (rs := [10]) (by as_aux_lemma => kernel_rfl) (by simp) ?_
                  refine AllReadyH.cons rfl (fun K hK => ?_) AllReadyH.nil
                  go_simp
                  have ga4 : w3.grownBy (w3.alloc (Obj.cells #[Value.int .i64 q1, Value.slice (some ⟨w2.heap.size, 0, none⟩) r2 r2] 93)) (some b) := grown_none (World.grownBy_alloc _ _ none)
                  have gb4 := grown_trans gg3 ga4
                  have sa4 : Src (w3.alloc (Obj.cells #[Value.int .i64 q1, Value.slice (some ⟨w2.heap.size, 0, none⟩) r2 r2] 93)) B b ((T1 + 1) + 1) := Src.alloc hs3 _
                  have hbN : Below w3.heap.size w3 (w3.alloc (Obj.cells #[Value.int .i64 q1, Value.slice (some ⟨w2.heap.size, 0, none⟩) r2 r2] 93)) := (Below.refl _ _).alloc (Nat.le_refl _) _
                  have hrF : RowI .u8 5 (w3.alloc (Obj.cells #[Value.int .i64 q1, Value.slice (some ⟨w2.heap.size, 0, none⟩) r2 r2] 93)) w2.heap.size w3.heap.size (.slice (some ⟨w2.heap.size, 0, none⟩) r2 r2) (List.replicate r2 (0 : Int)).length (List.replicate r2 0) := by rw [List.length_replicate]; exact RowI.below (RowI.of hm3) hbN
                  have hcl : ∀ j q, (bkE (q1, .slice (some ⟨w2.heap.size, 0, none⟩) r2 r2))[j]? = some q → (w3.alloc (Obj.cells #[Value.int .i64 q1, Value.slice (some ⟨w2.heap.size, 0, none⟩) r2 r2] 93)).cell? ((⟨w3.heap.size, 0, none⟩ : Addr).add j) = some q := fun j q hq => by
                    rw [Addr.add_lit, Nat.zero_add, World.cell?_alloc_at _ _ _ _ rfl]
                    simpa [bkE] using hq
                  have hFz : (w3.alloc (Obj.cells #[Value.int .i64 q1, Value.slice (some ⟨w2.heap.size, 0, none⟩) r2 r2] 93)).heap.size = w3.heap.size + 1 := by simp
                  have HRF := hid hrF
                  have HCL := hid hcl
                  clear hrF hcl hbN
                  have S4 : ∃ s, (w3.alloc (Obj.cells #[Value.int .i64 q1, Value.slice (some ⟨w2.heap.size, 0, none⟩) r2 r2] 93)).cell? ⟨cb, 2, none⟩ = some s := ⟨_, (Blk.kept CBD.out gb4 (by simp; omega)).cell 2⟩
                  refine hK.out _ _ S4 (fun hS => ?_)
                  clear hK K
                  (try simp only [Act.put, List.getElem_toArray, List.getElem_cons_zero, List.getElem_cons_succ, List.setIfInBounds_toArray, List.set_cons_zero, List.set_cons_succ])
                  refine wpAnyH_ready (rs := [11]) (by as_aux_lemma => kernel_rfl) (by simp) ?_
                  refine AllReadyH.cons rfl (fun K hK => ?_) AllReadyH.nil
                  rw [if_pos (by rfl)]
                  have hoF := RowB.chg ROWD.out (Chg.one gb4) (.inr (by omega))
                  obtain ⟨us, hus⟩ : ∃ us : List Bv, (w3.alloc (Obj.cells #[Value.int .i64 q1, Value.slice (some ⟨w2.heap.size, 0, none⟩) r2 r2] 93)).ownsRow w.heap.size 93 2 (.slice a2 bs2.length c2) bs2.length (us.flatMap bkE) := by
                    obtain ⟨us, q1', q2', q3', q4'⟩ := hoF
                    exact ⟨us, q1'.1.2⟩
                  refine wp_append_own _ _ _ 24 rfl w.heap.size 93 i0 (.agg #[.int .i64 0, .slice none 0 0]) 2 32 Try.underlying24 hi' hz0 hz1 hz2 rfl (by decide) _ bs2.length (us.flatMap bkE) rfl hus ⟨w3.heap.size, 0, none⟩ 1 1 (bkE (q1, .slice (some ⟨w2.heap.size, 0, none⟩) r2 r2)) rfl rfl HCL.out (bkE_one q1 (some ⟨w2.heap.size, 0, none⟩) r2 r2) (by unfold maxLen; omega) (by omega) (by omega) ?_
                  intro v7 w7 ho7 hg7 _
                  have lo7 := World.ownsRow.lt hus
                  have hsn := RowB.snoc (num := q1) bu_ne hoF HRF.out (by omega) (by omega) (by omega) (fun us' h' => by rw [ownsRow_same h' hus]; exact ho7) hg7
                  have cbF := Blk.kept CBD.out gb4 (by simp; omega)
                  have rbF := Blk.kept RBD.out gb4 (by simp; omega)
                  have cb7 := Blk.kept cbF hg7 (Blk.not_row cbF (by decide) hus)
                  have rb7 := Blk.kept rbF hg7 (Blk.not_row rbF (by decide) hus)
                  have gw7 := grown_mix (grown_trans GD.out gb4) hg7 (fun j hj => (lo7 j hj).1)
                  have hs7 := Src.kept sa4 hg7 (fun j hj => ⟨by have := (lo7 j hj).1; omega, by have := (lo7 j hj).1; omega⟩)
                  obtain ⟨a7, c7, hv7, -, -⟩ := hsn.shape
                  subst hv7
                  have x2 := cb7.cell 2
                  have xf2 := cb7.frozen 2
                  simp at x2
                  have hz7 := hg7.size
                  refine hK.out _ _ ⟨_, x2⟩ (fun hS => ?_)
                  clear hK K
                  (try simp only [Act.put, List.getElem_toArray, List.getElem_cons_zero, List.getElem_cons_succ, List.setIfInBounds_toArray, List.set_cons_zero, List.set_cons_succ])
                  refine wpAnyH_take (i := 12) (v := (.pointer (some ⟨cb, 2, none⟩))) rfl (by as_aux_lemma => kernel_rfl) (by as_aux_lemma => kernel_rfl) (by as_aux_lemma => kernel_rfl) (fun _ _ _ h => nomatch h.1) (Or.inl ⟨by kernel_rfl, ?_⟩) hS ?_
                  · intro w hSw; (try dsimp only at hSw); go_simp
                  simp only [Act.put, List.getElem_toArray, List.getElem_cons_zero, List.getElem_cons_succ, List.setIfInBounds_toArray, List.set_cons_zero, List.set_cons_succ]
                  refine wpAnyH_ready (rs := [13]) (by as_aux_lemma => kernel_rfl) (by simp) ?_
                  refine AllReadyH.cons rfl (fun K hK => ?_) AllReadyH.nil
                  go_simp
                  have cb8 := cb7.set (i := 2) (.slice a7 (bs2.length + 1) c7)
                  have hg8 := set_grown w7 cb 2 (.slice a7 (bs2.length + 1) c7)
                  refine hK.out _ _ ⟨_, cb8.cell 2⟩ (fun hS => ?_)
                  clear hK K
                  (try simp only [Act.put, List.getElem_toArray, List.getElem_cons_zero, List.getElem_cons_succ, List.setIfInBounds_toArray, List.set_cons_zero, List.set_cons_succ])
                  refine wpAnyH_done (by kernel_rfl) ?_ _
                  refine ⟨rfl, D.heap.size + 1, D.heap.size, w2.heap.size, w3.heap.size, q1, r2, a7, c7, ?_, hr2, by simpa using cb8, Blk.kept rb7 hg8 (by simp; omega), RowB.mono (RowB.apart hsn cb7 (by decide) (by decide) hg8) (Nat.le_refl _) hg8.size, ?_, ?_⟩
                  · simp only [Act.put, List.getElem_toArray, List.getElem_cons_zero, List.getElem_cons_succ, List.setIfInBounds_toArray, List.set_cons_zero, List.set_cons_succ]
                  · exact hs7.kept hg8 (fun j hj => by cases hj; exact ⟨by omega, by omega⟩)
                  · exact grown_mix gw7 hg8 (fun j hj => by cases hj; omega)
                · skip
                  go_simp
                  have ga4 : w3.grownBy (w3.alloc (Obj.cells #[Value.int .i64 q1, Value.slice (some ⟨w2.heap.size, 0, none⟩) r2 r2] 93)) (some b) := grown_none (World.grownBy_alloc _ _ none)
                  have gb4 := grown_trans gg3 ga4
                  have sa4 : Src (w3.alloc (Obj.cells #[Value.int .i64 q1, Value.slice (some ⟨w2.heap.size, 0, none⟩) r2 r2] 93)) B b ((T1 + 1) + 1) := Src.alloc hs3 _
                  have hbN : Below w3.heap.size w3 (w3.alloc (Obj.cells #[Value.int .i64 q1, Value.slice (some ⟨w2.heap.size, 0, none⟩) r2 r2] 93)) := (Below.refl _ _).alloc (Nat.le_refl _) _
                  have hrF : RowI .u8 5 (w3.alloc (Obj.cells #[Value.int .i64 q1, Value.slice (some ⟨w2.heap.size, 0, none⟩) r2 r2] 93)) w2.heap.size w3.heap.size (.slice (some ⟨w2.heap.size, 0, none⟩) r2 r2) (List.replicate r2 (0 : Int)).length (List.replicate r2 0) := by rw [List.length_replicate]; exact RowI.below (RowI.of hm3) hbN
                  have hcl : ∀ j q, (bkE (q1, .slice (some ⟨w2.heap.size, 0, none⟩) r2 r2))[j]? = some q → (w3.alloc (Obj.cells #[Value.int .i64 q1, Value.slice (some ⟨w2.heap.size, 0, none⟩) r2 r2] 93)).cell? ((⟨w3.heap.size, 0, none⟩ : Addr).add j) = some q := fun j q hq => by
                    rw [Addr.add_lit, Nat.zero_add, World.cell?_alloc_at _ _ _ _ rfl]
                    simpa [bkE] using hq
                  have hFz : (w3.alloc (Obj.cells #[Value.int .i64 q1, Value.slice (some ⟨w2.heap.size, 0, none⟩) r2 r2] 93)).heap.size = w3.heap.size + 1 := by simp
                  have HRF := hid hrF
                  have HCL := hid hcl
                  clear hrF hcl hbN
                  have S4 : ∃ s, (w3.alloc (Obj.cells #[Value.int .i64 q1, Value.slice (some ⟨w2.heap.size, 0, none⟩) r2 r2] 93)).cell? ⟨cb, 2, none⟩ = some s := ⟨_, (Blk.kept CBD.out gb4 (by simp; omega)).cell 2⟩
                  refine hK.out _ _ S4 (fun hS => ?_)
                  clear hK K
                  (try simp only [Act.put, List.getElem_toArray, List.getElem_cons_zero, List.getElem_cons_succ, List.setIfInBounds_toArray, List.set_cons_zero, List.set_cons_succ])
                  refine wpAnyH_ready (rs := [1]) (by as_aux_lemma => kernel_rfl) (by simp) ?_
                  refine AllReadyH.cons rfl (fun K hK => ?_) AllReadyH.nil
                  have k2 : (w3.alloc (Obj.cells #[Value.int .i64 q1, Value.slice (some ⟨w2.heap.size, 0, none⟩) r2 r2] 93)).cell? ⟨cb, 2, none⟩ = some (.slice a2 bs2.length c2) := by have q := (Blk.kept CBD.out gb4 (by simp; omega)).cell 2; simpa using q
                  go_simp
                  refine hK.out _ _ hS (fun hS => ?_)
                  clear hK K
                  (try simp only [Act.put, List.getElem_toArray, List.getElem_cons_zero, List.getElem_cons_succ, List.setIfInBounds_toArray, List.set_cons_zero, List.set_cons_succ])
                  clear k2
                  refine wpAnyH_ready (rs := [11]) (by as_aux_lemma => kernel_rfl) (by simp) ?_
                  refine AllReadyH.cons rfl (fun K hK => ?_) AllReadyH.nil
                  rw [if_pos (by rfl)]
                  have hoF := RowB.chg ROWD.out (Chg.one gb4) (.inr (by omega))
                  obtain ⟨us, hus⟩ : ∃ us : List Bv, (w3.alloc (Obj.cells #[Value.int .i64 q1, Value.slice (some ⟨w2.heap.size, 0, none⟩) r2 r2] 93)).ownsRow w.heap.size 93 2 (.slice a2 bs2.length c2) bs2.length (us.flatMap bkE) := by
                    obtain ⟨us, q1', q2', q3', q4'⟩ := hoF
                    exact ⟨us, q1'.1.2⟩
                  refine wp_append_own _ _ _ 24 rfl w.heap.size 93 i0 (.agg #[.int .i64 0, .slice none 0 0]) 2 32 Try.underlying24 hi' hz0 hz1 hz2 rfl (by decide) _ bs2.length (us.flatMap bkE) rfl hus ⟨w3.heap.size, 0, none⟩ 1 1 (bkE (q1, .slice (some ⟨w2.heap.size, 0, none⟩) r2 r2)) rfl rfl HCL.out (bkE_one q1 (some ⟨w2.heap.size, 0, none⟩) r2 r2) (by unfold maxLen; omega) (by omega) (by omega) ?_
                  intro v7 w7 ho7 hg7 _
                  have lo7 := World.ownsRow.lt hus
                  have hsn := RowB.snoc (num := q1) bu_ne hoF HRF.out (by omega) (by omega) (by omega) (fun us' h' => by rw [ownsRow_same h' hus]; exact ho7) hg7
                  have cbF := Blk.kept CBD.out gb4 (by simp; omega)
                  have rbF := Blk.kept RBD.out gb4 (by simp; omega)
                  have cb7 := Blk.kept cbF hg7 (Blk.not_row cbF (by decide) hus)
                  have rb7 := Blk.kept rbF hg7 (Blk.not_row rbF (by decide) hus)
                  have gw7 := grown_mix (grown_trans GD.out gb4) hg7 (fun j hj => (lo7 j hj).1)
                  have hs7 := Src.kept sa4 hg7 (fun j hj => ⟨by have := (lo7 j hj).1; omega, by have := (lo7 j hj).1; omega⟩)
                  obtain ⟨a7, c7, hv7, -, -⟩ := hsn.shape
                  subst hv7
                  have x2 := cb7.cell 2
                  have xf2 := cb7.frozen 2
                  simp at x2
                  have hz7 := hg7.size
                  refine hK.out _ _ ⟨_, x2⟩ (fun hS => ?_)
                  clear hK K
                  (try simp only [Act.put, List.getElem_toArray, List.getElem_cons_zero, List.getElem_cons_succ, List.setIfInBounds_toArray, List.set_cons_zero, List.set_cons_succ])
                  refine wpAnyH_take (i := 12) (v := (.pointer (some ⟨cb, 2, none⟩))) rfl (by as_aux_lemma => kernel_rfl) (by as_aux_lemma => kernel_rfl) (by as_aux_lemma => kernel_rfl) (fun _ _ _ h => nomatch h.1) (Or.inl ⟨by kernel_rfl, ?_⟩) hS ?_
                  · intro w hSw; (try dsimp only at hSw); go_simp
                  simp only [Act.put, List.getElem_toArray, List.getElem_cons_zero, List.getElem_cons_succ, List.setIfInBounds_toArray, List.set_cons_zero, List.set_cons_succ]
                  refine wpAnyH_ready (rs := [13]) (by as_aux_lemma => kernel_rfl) (by simp) ?_
                  refine AllReadyH.cons rfl (fun K hK => ?_) AllReadyH.nil
                  go_simp
                  have cb8 := cb7.set (i := 2) (.slice a7 (bs2.length + 1) c7)
                  have hg8 := set_grown w7 cb 2 (.slice a7 (bs2.length + 1) c7)
                  refine hK.out _ _ ⟨_, cb8.cell 2⟩ (fun hS => ?_)
                  clear hK K
                  (try simp only [Act.put, List.getElem_toArray, List.getElem_cons_zero, List.getElem_cons_succ, List.setIfInBounds_toArray, List.set_cons_zero, List.set_cons_succ])
                  refine wpAnyH_done (by kernel_rfl) ?_ _
                  refine ⟨rfl, D.heap.size + 1, D.heap.size, w2.heap.size, w3.heap.size, q1, r2, a7, c7, ?_, hr2, by simpa using cb8, Blk.kept rb7 hg8 (by simp; omega), RowB.mono (RowB.apart hsn cb7 (by decide) (by decide) hg8) (Nat.le_refl _) hg8.size, ?_, ?_⟩
                  · simp only [Act.put, List.getElem_toArray, List.getElem_cons_zero, List.getElem_cons_succ, List.setIfInBounds_toArray, List.set_cons_zero, List.set_cons_succ]
                  · exact hs7.kept hg8 (fun j hj => by cases hj; exact ⟨by omega, by omega⟩)
                  · exact grown_mix gw7 hg8 (fun j hj => by cases hj; omega)
    · rintro a' w6 ⟨G1, G2, MM, NN, q1, r2, a7, c7, rfl, hr2, cb6, rb6, row6, hs6, gw6⟩
      simp only [Act.put, List.getElem_toArray, List.getElem_cons_zero, List.getElem_cons_succ, List.setIfInBounds_toArray, List.set_cons_zero, List.set_cons_succ]
      have CBX := hid cb6
      have RBX := hid rb6
      have ROWX := hid row6
      have HSX := hid hs6
      have GWX := hid gw6
      have HSM := hid (small_snoc HOK.out q1 r2 hr2)
      have HBS := hid (bytes_snoc HBB.out q1 r2)
      have hnl : (bs2 ++ [(q1, List.replicate r2 (0 : Int))]).length = bs2.length + 1 := by simp
      rw [← hnl] at CBX ROWX ⊢
      generalize bs2 ++ [(q1, List.replicate r2 (0 : Int))] = bs3 at CBX ROWX HSM HBS ⊢
      clear cb6 rb6 row6 hs6 gw6 hnl
      have d0 := RBX.out.cell 0
      have d1 := RBX.out.cell 1
      have d2 := RBX.out.cell 2
      have f0 := RBX.out.frozen 0
      have f1 := RBX.out.frozen 1
      have f2 := RBX.out.frozen 2
      have x0 := CBX.out.cell 0
      have x1 := CBX.out.cell 1
      have x2 := CBX.out.cell 2
      simp at d0 d1 d2 x0 x1 x2
      have hgs : ∀ x y y2, w6.grownBy (((w6.setCell ⟨w.heap.size, 0, none⟩ x).setCell ⟨w.heap.size, 1, none⟩ y).setCell ⟨w.heap.size, 2, none⟩ y2) (some w.heap.size) := fun x y y2 => grownT (grownT (set_grown _ _ _ _) (set_grown _ _ _ _)) (set_grown _ _ _ _)
      have HGS := hid hgs
      clear hgs
      go_wp2
      refine bodyPost_ret (v := .agg #[.int .i64 U, .int .i64 z, .slice a7 bs3.length c7]) (by simp [results, Try.results81, go_sem, d0, d1, d2]) rfl ⟨U, z, .slice a7 bs3.length c7, bs3, rfl, ⟨HBS.out, HSM.out⟩, ?_, ?_, ?_⟩
      · exact (RowB.apart ROWX.out RBX.out (by decide) (by decide) (HGS.out (.int .i64 U) (.int .i64 z) (.slice a7 bs3.length c7))).mono (Nat.le_refl _) (by simp [World.setCell])
      · exact (HSX.out.kept (HGS.out (.int .i64 U) (.int .i64 z) (.slice a7 bs3.length c7)) (fun j hj => by cases hj; exact ⟨hBw, by omega⟩)).more (by omega)
      · exact grown_mix GWX.out (HGS.out (.int .i64 U) (.int .i64 z) (.slice a7 bs3.length c7)) (fun j hj => by cases hj; exact Nat.le_refl _)
  have k0' : (k == 0) = false := by simpa using k0
  have k1' : (k == 1) = false := by simpa using k1
  have k2' : (k == 2) = false := by simpa using k2
  have CBX := CB4
  have RBX := RB4
  have ROWX := hid (ROW4.out.mono (Nat.le_refl _) (show cb ≤ w4.heap.size by omega))
  have HSX := HS4
  have GWX := GW4
  clear o0 o1 o2
  have d0 := RBX.out.cell 0
  have d1 := RBX.out.cell 1
  have d2 := RBX.out.cell 2
  have f0 := RBX.out.frozen 0
  have f1 := RBX.out.frozen 1
  have f2 := RBX.out.frozen 2
  have x0 := CBX.out.cell 0
  have x1 := CBX.out.cell 1
  have x2 := CBX.out.cell 2
  simp at d0 d1 d2 x0 x1 x2
  have hgs : ∀ x y y2, w4.grownBy (((w4.setCell ⟨w.heap.size, 0, none⟩ x).setCell ⟨w.heap.size, 1, none⟩ y).setCell ⟨w.heap.size, 2, none⟩ y2) (some w.heap.size) := fun x y y2 => grownT (grownT (set_grown _ _ _ _) (set_grown _ _ _ _)) (set_grown _ _ _ _)
  have HGS := hid hgs
  clear hgs
  go_wp2
  refine bodyPost_ret (v := .agg #[.int .i64 U, .int .i64 z, .slice a2 bs2.length c2]) (by simp [results, Try.results81, go_sem, d0, d1, d2]) rfl ⟨U, z, .slice a2 bs2.length c2, bs2, rfl, ⟨HBB.out, hbl6.1⟩, ?_, ?_, ?_⟩
  · exact (RowB.apart ROWX.out RBX.out (by decide) (by decide) (HGS.out (.int .i64 U) (.int .i64 z) (.slice a2 bs2.length c2))).mono (Nat.le_refl _) (by simp [World.setCell])
  · exact (HSX.out.kept (HGS.out (.int .i64 U) (.int .i64 z) (.slice a2 bs2.length c2)) (fun j hj => by cases hj; exact ⟨hBw, by omega⟩)).more (by omega)
  · exact grown_mix GWX.out (HGS.out (.int .i64 U) (.int .i64 z) (.slice a2 bs2.length c2)) (fun j hj => by cases hj; exact Nat.le_refl _)
end Go.Proofs.Ytckkkhabjfbngaa
