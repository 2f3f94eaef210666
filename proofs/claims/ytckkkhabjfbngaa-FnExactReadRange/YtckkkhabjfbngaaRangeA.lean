/-
  AppendN, Range1, Range3 in one text.
-/
import Derived.Deep.DeepAppendRoom
import Derived.Test.YtckkkhabjfbngaaAppend
import Derived.Test.YtckkkhabjfbngaaRangeM
import Derived.Test.YtckkkhabjfbngaaFetch1
namespace Go.Proofs.Ytckkkhabjfbngaa
open Go.RowKit
set_option linter.unusedVariables false

theorem wp_append_new {P : Program} {w : World} {o : Oper} {a : Act} {K : Act → World → Prop} {Q : Exit → Act → World → Prop} (s x : Operand) (t : TypeId)
    (ho : o.op = .call { callee := .builtin .append, args := #[s, x], argTypes := #[t, t] })
    (k : IntKind) (base : Nat) (e : TypeId) (i : TypeInfo) (bytes : Nat) (ht : P.underlying t = some (.slice e)) (hi : P.info? e = some i) (hz : i.zero = some (.int k 0))
    (hsize : i.size = 1) (hby : i.bytes = bytes) (v : Value) (n : Nat) (xs : List Int) (hs : a.eval s = v) (hown : Own k e w base v n xs)
    (sa : Option Addr) (m c : Nat) (ys : List Int) (hx : a.eval x = .slice sa m c) (hr : Rd k w sa m ys)
    (h63 : n + m ≤ maxLen) (hbytes : (n + m) * bytes ≤ 140737488355328) (hbase : base ≤ w.heap.size)
    (h : ∀ v' w', Own k e w' base v' (n + m) (xs ++ ys) → w.grownBy w' v.ownBlock → (v'.ownBlock = v.ownBlock ∨ ∀ j, v'.ownBlock = some j → w.heap.size ≤ j) → K (a.put o.dst v') w') : o.wp P a w K Q := by
  cases sa with
  | none =>
    have hm : m = 0 := by
      rcases hr.2 with h0 | ⟨b, off, ha, _⟩
      · exact h0
      · cases ha
    subst hm
    obtain rfl : ys = [] := List.eq_nil_of_length_eq_zero hr.1
    have hrun : (Builtin.append_ #[t, t] o.type #[v, .slice none 0 c]).run P w = .ok v w := by
      rcases hown.2 with ⟨rfl, rfl⟩ | ⟨g, cap, cur, rfl, _, _, hnc, _⟩
      · simp [Builtin.append_, run_underlying ht, sizeOf, typeInfo, hi, Builtin.lenOf, Builtin.firstCells]
      · simp [Builtin.append_, run_underlying ht, sizeOf, typeInfo, hi, Builtin.lenOf, Builtin.firstCells, hnc, storeCells]
    unfold Oper.wp
    simp [execOp, ho, resolve, invoke, builtin, hs, hx, hrun, Result.andThen]
    exact h v w (by simpa using hown) (World.grownBy.refl _ _) (.inl rfl)
  | some ad =>
    have key : ∃ v' w', (Builtin.append_ #[t, t] o.type #[v, .slice (some ad) m c]).run P w = .ok v' w' ∧ Own k e w' base v' (n + m) (xs ++ ys) ∧ w.grownBy w' v.ownBlock ∧ (v'.ownBlock = v.ownBlock ∨ ∀ j, v'.ownBlock = some j → w.heap.size ≤ j) := by
      have hl : (ys.map (Value.int k)).length = m * 1 := by simp [hr.1]
      rcases hown.2 with ⟨rfl, rfl⟩ | ⟨g, cap, cur, rfl, hbg, hg, hnc, hcm, hcs, htake⟩
      · have hx0 : xs = [] := List.eq_nil_of_length_eq_zero (hown.len)
        subst hx0
        obtain ⟨v', w', h1, h2, h3, -⟩ := run_append_own (P := P) w w.heap.size t o.type e i (.int k 0) 1 bytes ht hi hz hsize hby rfl (by decide) (.slice none 0 0) 0 [] (World.ownsRow_nil _ _ _ _) ad m c (ys.map (Value.int k)) hl (rd_cells hr) (ints_one k ys) h63 hbytes (Nat.le_refl _)
        have h2' : Own k e w' w.heap.size v' (0 + m) ([] ++ ys) := by unfold Own; rw [List.map_append]; exact h2
        exact ⟨v', w', h1, h2'.up hbase, h3, .inr fun j hj => (h2'.lt j hj).1⟩
      · by_cases hroom : n + m ≤ cap
        · obtain ⟨w', h1, h2, h3⟩ := run_append_own_spare (P := P) w base t o.type e i 1 ht hi hsize g n cap (xs.map (Value.int k)) hown ad m c (ys.map (Value.int k)) hl (rd_cells hr) (ints_one k ys) hroom
          exact ⟨_, w', h1, by unfold Own; rw [List.map_append]; exact h2, h3, .inl rfl⟩
        · obtain ⟨v', w', h1, h2, h3, -⟩ := run_append_own (P := P) w base t o.type e i (.int k 0) 1 bytes ht hi hz hsize hby rfl (by decide) _ n (xs.map (Value.int k)) hown ad m c (ys.map (Value.int k)) hl (rd_cells hr) (ints_one k ys) h63 hbytes hbase
          have hsmall : n + m ≤ 9223372036854775807 := by simp only [maxLen] at h63; omega
          have holds : ∀ j u, (xs.map (Value.int k))[j]? = some u → w.cell? ((⟨g, 0, none⟩ : Addr).add j) = some u := World.ownsRow.cells (g := g) hown rfl
          have h4 := run_append_grow (P := P) w t o.type e i (.int k 0) ht hi hz ⟨g, 0, none⟩ n cap (xs.map (Value.int k)) (by rw [hsize]; exact hown.1) holds ad m c (ys.map (Value.int k)) (by rw [hsize]; exact hl) (rd_cells hr) (by omega) (by omega) (growslice_fits (by omega) (by rw [hby]; exact hbytes))
          rw [h1] at h4
          cases h4
          exact ⟨_, _, h1, by unfold Own; rw [List.map_append]; exact h2, h3, .inr fun j hj => by simp [Value.ownBlock] at hj; omega⟩
    obtain ⟨v', w', hrun, h2, h3, h4⟩ := key
    unfold Oper.wp execOp
    simp only [ho, resolve, invoke, builtin, Sem.run_bind, Sem.run_pure, Result.andThen_ok, List.map_toArray, List.map_cons, List.map_nil, hs, hx, hrun]
    exact h v' w' h2 h3 h4

theorem wpList_append_new {P : Program} {w : World} {ops : Array Oper} {rest : List Oper} {o : Oper} {a : Act} {Q : Exit → Act → World → Prop} (hgd : o.guard = none) (s x : Operand) (t : TypeId)
    (ho : o.op = .call { callee := .builtin .append, args := #[s, x], argTypes := #[t, t] })
    (k : IntKind) (base : Nat) (e : TypeId) (i : TypeInfo) (bytes : Nat) (ht : P.underlying t = some (.slice e)) (hi : P.info? e = some i) (hz : i.zero = some (.int k 0))
    (hsize : i.size = 1) (hby : i.bytes = bytes) (v : Value) (n : Nat) (xs : List Int) (hs : a.eval s = v) (hown : Own k e w base v n xs)
    (sa : Option Addr) (m c : Nat) (ys : List Int) (hx : a.eval x = .slice sa m c) (hr : Rd k w sa m ys)
    (h63 : n + m ≤ maxLen) (hbytes : (n + m) * bytes ≤ 140737488355328) (hbase : base ≤ w.heap.size)
    (h : ∀ v' w', Own k e w' base v' (n + m) (xs ++ ys) → w.grownBy w' v.ownBlock → (v'.ownBlock = v.ownBlock ∨ ∀ j, v'.ownBlock = some j → w.heap.size ≤ j) → wpList P ops Q rest (a.put o.dst v') w') : wpList P ops Q (o :: rest) a w :=
  wpList_plain hgd fun K hK => wp_append_new s x t ho k base e i bytes ht hi hz hsize hby v n xs hs hown sa m c ys hx hr h63 hbytes hbase fun v' w' h1 h2 h3 => hK _ _ (h v' w' h1 h2 h3)
end Go.Proofs.Ytckkkhabjfbngaa

namespace Go.Proofs.Ytckkkhabjfbngaa
open Go.RowKit Go.ChangeMaps Go.MapKept
set_option linter.unusedVariables false
set_option linter.unusedSimpArgs false

/-- The entries lie elsewhere than a row. -/
def ApV (v : Value) (E : List En) : Prop := ∀ e ∈ E, ∀ ad l c, e.v = .slice (some ad) l c → v.ownBlock ≠ some ad.block

theorem chg_newR {lo hi : Nat} {row : Option Nat} {w w1 w2 : World} (h : Chg lo hi w w1) (hg : w1.grownBy w2 row) (hr : ∀ j, row = some j → w.heap.size ≤ j) : Chg lo hi w w2 :=
  ⟨hg.os.trans h.os, hg.tape.trans h.tape, hg.output.trans h.output, Nat.le_trans h.size hg.size, fun k hk ho => (hg.block k (Nat.lt_of_lt_of_le hk h.size) (fun q => by have := hr k q.symm; omega)).trans (h.block k hk ho)⟩

theorem held_lt {bm : Nat} {w : World} {E : List En} {bs : List Bk} (h : HoldE bm w E bs) (hl : ∀ b ∈ bs, 1 ≤ b.2.length) : ∀ e ∈ E, ∀ ad l c, e.v = .slice (some ad) l c → ad.block < w.heap.size := by
  intro e he ad l c hv
  obtain ⟨j, hj, hje⟩ := List.mem_iff_getElem.1 he
  have hjb : j < bs.length := by rw [← h.1]; exact hj
  obtain ⟨-, a, c', q1, q2, -, -, -⟩ := h.2 j e bs[j] (by rw [List.getElem?_eq_getElem hj, hje]) (List.getElem?_eq_getElem hjb)
  have hb1 := hl bs[j] (List.getElem_mem hjb)
  rw [q1] at hv
  simp only [Value.slice.injEq] at hv
  obtain ⟨b, off, ha, hc⟩ := q2.at (j := 0) (by omega)
  rw [hv.1] at ha
  simp only [Option.some.injEq] at ha
  rw [ha]
  have := block_lt_of_cell (hc 0 (by omega))
  exact this

theorem ApV.fetched {v : Value} {w : World} {E E' : List En} (h : ApV v E) (hn : NewV w E E') (hv : ∀ j, v.ownBlock = some j → j < w.heap.size) : ApV v E' := by
  intro e' he' ad l c hs hq
  rcases hn e' he' with ⟨e, he, hee⟩ | q
  · exact h e he ad l c (by rw [hee]; exact hs) hq
  · have := q ad l c hs
    have := hv _ hq
    omega

theorem ApV.put {v v' : Value} {bm : Nat} {w : World} {E : List En} {bs : List Bk} (h : ApV v E) (hh : HoldE bm w E bs) (hl : ∀ b ∈ bs, 1 ≤ b.2.length) (hw : v'.ownBlock = v.ownBlock ∨ ∀ j, v'.ownBlock = some j → w.heap.size ≤ j) : ApV v' E := by
  intro e he ad l c hs hq
  rcases hw with q | q
  · exact h e he ad l c hs (by rw [← q]; exact hq)
  · have := q _ hq
    have := held_lt hh hl e he ad l c hs
    omega

theorem Shelf.kept {v : Value} {bm : Nat} {U Z T : Int} {w w' : World} {E : List En} {bs : List Bk} (h : Shelf bm U Z T w E bs) (hg : w.grownBy w' v.ownBlock) (hb : ∀ j, v.ownBlock = some j → bm + 2 ≤ j) (ha : ApV v E) : Shelf bm U Z T w' E bs := by
  have hne : ∀ B, B < bm + 2 → some B ≠ v.ownBlock := fun B hB q => by have := hb B q.symm; omega
  refine ⟨h.own.kept hg (hne _ (by omega)), h.blk.kept hg (hne _ (by omega)), ⟨h.hold.1, fun j e b he hbb => ?_⟩, h.up, h.turns, h.T0, h.T1⟩
  obtain ⟨q1, a, c, q2, q3, q4, q5, q6⟩ := h.hold.2 j e b he hbb
  refine ⟨q1, a, c, q2, ⟨q3.1, ?_⟩, q4, q5, q6⟩
  rcases q3.2 with h0 | ⟨g, off, hga, hc⟩
  · exact .inl h0
  · refine .inr ⟨g, off, hga, fun i hi => ?_⟩
    have hx := hc i hi
    have hlt := block_lt_of_cell hx
    rw [World.cell?_of_block (hg.block g hlt (fun q => ha e (List.mem_of_getElem? he) ⟨g, off, none⟩ _ _ (by rw [q2, hga]) q.symm))]
    exact hx

def RdInv (bm U : Nat) (Z T : Int) (xs : List Int) (w : World) (P0 F : Nat) (R1 : List Int) (R2 : List Bk) (p : Option Addr) (m cp : Nat) (x y : Value) (wr : World) : Prop :=
  ∃ (k P : Nat) (a1 : Option Addr) (c1 : Nat) (out : List Int) (bs' : List Bk) (E' : List En) (T' : Int), x = .slice a1 out.length c1 ∧ y = .int .i64 (P : Int) ∧ Own .u8 5 wr (w.heap.size + 1) (.slice a1 out.length c1) out.length out ∧ Shelf bm U Z T' wr E' bs' ∧ ApV (.slice a1 out.length c1) E' ∧ OkC U Z bs' ∧ T' ≤ T + P ∧ P0 ≤ P ∧ P ≤ F + 64 ∧ F < k + P ∧ out ++ (rg U Z xs F k P bs').1 = R1 ∧ (rg U Z xs F k P bs').2 = R2 ∧ wr.cell? ⟨w.heap.size, 0, none⟩ = some (.slice p m cp) ∧ w.heap.size < wr.heap.size ∧ Chg bm (bm + 2) w wr

set_option maxHeartbeats 3200000 in
set_option maxRecDepth 20000 in
theorem read_any (bm U : Nat) (Z T : Int) (E : List En) (bs : List Bk) (P0 n M : Nat) (p : Option Addr) (m cp : Nat) (xs : List Int) (w : World) (h : Shelf bm U Z T w E bs) (hok : OkC U Z bs) (hp : Rd .u8 w p m xs) (hpa : ∀ ad, p = some ad → m = 0 ∨ ad.block < bm ∨ bm + 2 ≤ ad.block) (hm : m ≤ 400) (hmc : m ≤ cp) (hcm : cp ≤ maxLen) (hP0 : P0 ≤ 400) (hn : n ≤ 400) (hM1 : 1 ≤ M) (hM : M ≤ 400) (hT : T ≤ 1000) (R1 : List Int) (R2 : List Bk) (hR : rg U Z xs (P0 + n) (n + 1) P0 bs = (R1, R2)) :
    Calls Try.prog 61 #[.pointer (some ⟨bm + 1, 0, none⟩), .agg #[.slice p m cp], .int .i64 P0, .int .i64 n, .int .i64 M] w fun e w' => ∃ v, e = .returned v ∧ RowI .u8 5 w' w.heap.size w'.heap.size v R1.length R1 ∧ (∃ E' T', Shelf bm U Z T' w' E' R2) ∧ Chg bm (bm + 2) w w' := by
  obtain ⟨i0, hi, hz0, hz1, hz2⟩ := info_parts info8
  have hxl : xs.length ≤ 400 := by have := hp.1; omega
  have hu1 : 1 ≤ U := by have := hok.u1; omega
  have hu2 : U ≤ 64 := by have := hok.u2; omega
  have hbm := h.blk.lt
  have hRl : R1.length ≤ n := by
    have q := (rg_len (E := P0 + n) hu1 (n + 1) P0 bs hok hxl).1
    rw [hR] at q
    simp only at q
    omega
  have HCM := hid hcm
  have HSH := hid h
  have HP := hid hp
  have hU0 : ¬ (U : Int) = 0 := by omega
  have hUn : ¬ U = 0 := by omega
  obtain ⟨F, hF⟩ : ∃ F, F = P0 + n := ⟨_, rfl⟩
  rw [← hF] at hR
  have hFI : (F : Int) = (P0 : Int) + (n : Int) := by omega
  clear h hp hcm
  go_enter Try.func61, Try.ntmps61
  go_wp2
  go_loopw [11, 13] (RdInv bm U Z T xs w P0 F R1 R2 p m cp) (fun _ y _ => F + 65 - (intOf y).toNat)
  case atStart =>
    have hb : Below w.heap.size w (w.alloc (Obj.cells #[Value.slice p m cp] 28)) := (Below.refl _ _).alloc (Nat.le_refl _) _
    exact ⟨n + 1, P0, none, 0, [], bs, E, T, rfl, rfl, by simpa using Own.nil _ _, HSH.out.below hb, fun e he ad l c hs hq => by simp [Value.ownBlock] at hq, hok, by omega, Nat.le_refl _, by omega, by omega, by rw [hR]; rfl, by rw [hR], by simp [go_sem], by simp, Chg.of_below hb⟩
  case round =>
    obtain ⟨k, P, a1, c1, out, bs', E', T', rfl, rfl, hown, hs, hapv, hok', hT', hPP, hPF, hk, hr1, hr2, hcf, hsz, hchg⟩ := hrel
    have hol : out.length ≤ 400 := by
      have := congrArg List.length hr1
      rw [List.length_append] at this
      omega
    by_cases hlt : P < F
    · have hlt' : (P : Int) < (P0 : Int) + (n : Int) := by omega
      have hu : wr.cell? ⟨bm + 1, 0, none⟩ = some (.int .i64 U) := by have q := hs.blk.cell 0; simpa using q
      have hq := okC_ft hok' hxl (P / U)
      have hYl := ftB_len hok' xs (P / U)
      have hrl := fun hY => rg_last (z := Z) (k := k) hlt hk (Y := ftB U bs' xs (P / U)) rfl rfl hY
      have hrm := fun hY => rg_more (z := Z) (k := k) hlt hk (Y := ftB U bs' xs (P / U)) rfl rfl hY hu1
      have hwN := div_is P U (by omega) hu1
      have hwM := mod_is P U (by omega)
      have hwD := divE_is P U (by omega) hu1
      have hwE : (P : Int) % (U : Int) = ((P % U : Nat) : Int) := rfl
      have hNb := Nat.div_le_self P U
      have hMb := Nat.mod_lt P (show U > 0 by omega)
      have CT := hid (fetch_any bm U Z T' E' bs' (P / U) M p m cp xs wr.drew (hs.below (Below.refl _ _).drew) hok' (show Rd .u8 wr.drew p m xs from rd_chg (w' := wr) HP.out hchg hpa) hm hmc HCM.out (by omega) hM1 hM (by omega))
      generalize ftB U bs' xs (P / U) = Y at hq hYl hrl hrm CT
      generalize ftQ Z bs' ((P / U : Nat) : Int) Y = Q at hq hrl hrm CT
      generalize P / U = N at hwN hwD hNb CT
      generalize P % U = J at hwM hwE hMb hrl hrm
      have HRL := hid hrl
      have HRM := hid hrm
      have HO := hid hown
      have HR1 := hid hr1
      have HR2 := hid hr2
      have HOK := hid hq
      clear hrl hrm hown hr1 hr2 hs hq hok'
      go_wp2_with fail
      refine wp_region_held_drew (S := fun w' => w'.cell? ⟨w.heap.size, 0, none⟩ = some (.slice p m cp) ∧ w'.cell? ⟨bm + 1, 0, none⟩ = some (.int .i64 U)) (by kernel_rfl) (by exact ⟨hcf, hu⟩) (fun hS => ?_)
      refine wpAnyH_take (i := 0) (v := (.pointer (some ⟨bm + 1, 0, none⟩))) rfl (by as_aux_lemma => kernel_rfl) (by as_aux_lemma => kernel_rfl) (by as_aux_lemma => kernel_rfl) (fun _ _ _ h => h) (Or.inl ⟨by kernel_rfl, ?_⟩) hS ?_
      · intro w hSw; (try dsimp only at hSw); go_simp; try first | rw [if_neg hUn, hwD] | rw [hwD] | exact hwD
      simp only [Act.put, List.getElem_toArray, List.getElem_cons_zero, List.getElem_cons_succ, List.setIfInBounds_toArray, List.set_cons_zero, List.set_cons_succ]
      refine wpAnyH_take (i := 1) (v := (.agg #[.slice p m cp])) rfl (by as_aux_lemma => kernel_rfl) (by as_aux_lemma => kernel_rfl) (by as_aux_lemma => kernel_rfl) (fun _ _ _ h => h) (Or.inl ⟨by kernel_rfl, ?_⟩) hS ?_
      · intro w hSw; (try dsimp only at hSw); go_simp; try first | rw [if_neg hUn, hwD] | rw [hwD] | exact hwD
      simp only [Act.put, List.getElem_toArray, List.getElem_cons_zero, List.getElem_cons_succ, List.setIfInBounds_toArray, List.set_cons_zero, List.set_cons_succ]
      refine wpAnyH_take (i := 2) (v := (.int .i64 (P : Int))) rfl (by as_aux_lemma => kernel_rfl) (by as_aux_lemma => kernel_rfl) (by as_aux_lemma => kernel_rfl) (fun _ _ _ h => h) (Or.inl ⟨by kernel_rfl, ?_⟩) hS ?_
      · intro w hSw; (try dsimp only at hSw); go_simp; try first | rw [if_neg hUn, hwD] | rw [hwD] | exact hwD
      simp only [Act.put, List.getElem_toArray, List.getElem_cons_zero, List.getElem_cons_succ, List.setIfInBounds_toArray, List.set_cons_zero, List.set_cons_succ]
      refine wpAnyH_take (i := 3) (v := (.pointer (some ⟨bm + 1, 0, none⟩))) rfl (by as_aux_lemma => kernel_rfl) (by as_aux_lemma => kernel_rfl) (by as_aux_lemma => kernel_rfl) (fun _ _ _ h => h) (Or.inl ⟨by kernel_rfl, ?_⟩) hS ?_
      · intro w hSw; (try dsimp only at hSw); go_simp; try first | rw [if_neg hUn, hwD] | rw [hwD] | exact hwD
      simp only [Act.put, List.getElem_toArray, List.getElem_cons_zero, List.getElem_cons_succ, List.setIfInBounds_toArray, List.set_cons_zero, List.set_cons_succ]
      refine wpAnyH_take (i := 4) (v := (.pointer (some ⟨bm + 1, 0, none⟩))) rfl (by as_aux_lemma => kernel_rfl) (by as_aux_lemma => kernel_rfl) (by as_aux_lemma => kernel_rfl) (fun _ _ _ h => h) (Or.inl ⟨by kernel_rfl, ?_⟩) hS ?_
      · intro w hSw; (try dsimp only at hSw); go_simp; try first | rw [if_neg hUn, hwD] | rw [hwD] | exact hwD
      simp only [Act.put, List.getElem_toArray, List.getElem_cons_zero, List.getElem_cons_succ, List.setIfInBounds_toArray, List.set_cons_zero, List.set_cons_succ]
      refine wpAnyH_take (i := 5) (v := (.pointer (some ⟨bm + 1, 0, none⟩))) rfl (by as_aux_lemma => kernel_rfl) (by as_aux_lemma => kernel_rfl) (by as_aux_lemma => kernel_rfl) (fun _ _ _ h => h) (Or.inl ⟨by kernel_rfl, ?_⟩) hS ?_
      · intro w hSw; (try dsimp only at hSw); go_simp; try first | rw [if_neg hUn, hwD] | rw [hwD] | exact hwD
      simp only [Act.put, List.getElem_toArray, List.getElem_cons_zero, List.getElem_cons_succ, List.setIfInBounds_toArray, List.set_cons_zero, List.set_cons_succ]
      refine wpAnyH_take (i := 6) (v := (.int .i64 (U : Int))) rfl (by as_aux_lemma => kernel_rfl) (by as_aux_lemma => kernel_rfl) (by as_aux_lemma => kernel_rfl) (fun _ _ _ h => h) (Or.inl ⟨by kernel_rfl, ?_⟩) hS ?_
      · intro w hSw; (try dsimp only at hSw); go_simp; try first | rw [if_neg hUn, hwD] | rw [hwD] | exact hwD
      simp only [Act.put, List.getElem_toArray, List.getElem_cons_zero, List.getElem_cons_succ, List.setIfInBounds_toArray, List.set_cons_zero, List.set_cons_succ]
      refine wpAnyH_take (i := 7) (v := (.int .i64 (N : Int))) rfl (by as_aux_lemma => kernel_rfl) (by as_aux_lemma => kernel_rfl) (by as_aux_lemma => kernel_rfl) (fun _ _ _ h => h) (Or.inl ⟨by kernel_rfl, ?_⟩) hS ?_
      · intro w hSw; (try dsimp only at hSw); go_simp; try first | rw [if_neg hUn, hwD] | rw [hwD] | exact hwD
      simp only [Act.put, List.getElem_toArray, List.getElem_cons_zero, List.getElem_cons_succ, List.setIfInBounds_toArray, List.set_cons_zero, List.set_cons_succ]
      refine wpAnyH_take (i := 8) (v := (.int .i64 (M : Int))) rfl (by as_aux_lemma => kernel_rfl) (by as_aux_lemma => kernel_rfl) (by as_aux_lemma => kernel_rfl) (fun _ _ _ h => h) (Or.inl ⟨by kernel_rfl, ?_⟩) hS ?_
      · intro w hSw; (try dsimp only at hSw); go_simp; try first | rw [if_neg hUn, hwD] | rw [hwD] | exact hwD
      simp only [Act.put, List.getElem_toArray, List.getElem_cons_zero, List.getElem_cons_succ, List.setIfInBounds_toArray, List.set_cons_zero, List.set_cons_succ]
      refine wpAnyH_ready (rs := [9]) (by as_aux_lemma => kernel_rfl) (by simp) ?_
      refine AllReadyH.cons rfl (fun K hK => ?_) AllReadyH.nil
      go_simp
      refine Calls.mono CT.out ?_
      rintro e5 w5 ⟨ya, yc, E5', T5, rfl, hr5, hyc, hym, hs5, hT5, hC5, hnv5⟩
      have cf5 : w5.cell? ⟨w.heap.size, 0, none⟩ = some (.slice p m cp) := hC5.at (by exact hcf) (by exact hsz) (.inr (by omega))
      have u5 : w5.cell? ⟨bm + 1, 0, none⟩ = some (.int .i64 U) := by have q := hs5.blk.cell 0; simpa using q
      refine hK.out _ _ ⟨cf5, u5⟩ (fun hS => ?_)
      clear hK K
      (try simp only [Act.put, List.getElem_toArray, List.getElem_cons_zero, List.getElem_cons_succ, List.setIfInBounds_toArray, List.set_cons_zero, List.set_cons_succ])
      refine wpAnyH_take (i := 10) (v := (.slice ya Y.length yc)) rfl (by as_aux_lemma => kernel_rfl) (by as_aux_lemma => kernel_rfl) (by as_aux_lemma => kernel_rfl) (fun _ _ _ h => h) (Or.inl ⟨by kernel_rfl, ?_⟩) hS ?_
      · intro w hSw; (try dsimp only at hSw); go_simp; try first | rw [if_neg hUn, hwD] | rw [hwD] | exact hwD
      simp only [Act.put, List.getElem_toArray, List.getElem_cons_zero, List.getElem_cons_succ, List.setIfInBounds_toArray, List.set_cons_zero, List.set_cons_succ]
      refine wpAnyH_done (by kernel_rfl) ?_ _
      have HS5 := hid hs5
      have hz5 : wr.heap.size ≤ w5.heap.size := hC5.size
      have HC5 : Hid (Chg bm (bm + 2) w w5) := hid (hchg.trans ((Chg.of_below (Below.refl _ _).drew).trans hC5))
      have HO5 : Hid (RowI .u8 5 w5 (w.heap.size + 1) wr.heap.size (.slice a1 out.length c1) out.length out) := hid (RowI.chg (w := wr.drew) (by exact RowI.of HO.out) hC5 (.inr (by omega)))
      have hapv5 : ApV (.slice a1 out.length c1) E5' := hapv.fetched hnv5 (fun j hj => (HO.out.lt j hj).2)
      have HAP5 := hid hapv5
      clear hS hs5 hC5 CT HO hcf hu hchg hnv5 hapv hapv5
      obtain ⟨pt, hpt⟩ : ∃ pt, pt = (Y.drop J).take (F - P) := ⟨_, rfl⟩
      obtain ⟨fr, hfr⟩ : ∃ fr, fr = min J Y.length := ⟨_, rfl⟩
      have hLl : pt.length = min (F - P) (Y.length - J) := by rw [hpt]; simp
      obtain ⟨L, hL⟩ : ∃ L, L = pt.length := ⟨_, rfl⟩
      rw [← hL] at hLl
      have E5 := hid (show min ((P : Int) % (U : Int)) (Y.length : Int) = (fr : Int) by rw [hwE]; omega)
      have E6 := hid (show min ((fr : Int) + ((P0 : Int) + (n : Int)) - (P : Int)) (Y.length : Int) = (fr : Int) + (L : Int) by omega)
      have hfrL : fr + L ≤ Y.length := by omega
      have hfr64 : fr ≤ 64 := by omega
      have hL64 : L ≤ 64 := by omega
      have hfc : fr + L ≤ yc := by omega
      have HRP : Hid (∀ b, (0 < L → ∀ g off, ya = some ⟨g, off, none⟩ → b = some ⟨g, off + fr, none⟩) → Rd .u8 w5 b (fr + L - fr) pt) := hid (fun b hb => by
        rw [Nat.add_sub_cancel_left]
        by_cases h0 : L = 0
        · have hp0 : pt = [] := List.eq_nil_of_length_eq_zero (by omega)
          rw [h0, hp0]
          exact ⟨rfl, .inl rfl⟩
        · have hfJ : fr = J := by omega
          subst hfJ
          have q := hr5.cut fr L hfrL b hb
          have qe : (Y.drop fr).take L = pt := by
            rw [hpt]
            by_cases hc : F - P ≤ Y.length - fr
            · rw [show L = F - P by omega]
            · rw [List.take_of_length_le (by rw [List.length_drop]; omega), List.take_of_length_le (by rw [List.length_drop]; omega)]
          rw [qe] at q
          exact q)
      rw [← hpt] at HRL HRM
      have HL := hid hL
      have HYM := hid hym
      have hoL : out.length + L ≤ 464 := by omega
      clear hr5 hpt hfr hLl hL hym
      have hP1k : P ≤ 1000 := by omega
      have HF := hid hF
      have HKK := hid hk
      have HT' := hid hT'
      have HT5 := hid hT5
      clear hpa hok hR hF hFI hwN hwM hwD hxl hk hT' hT5 hRl hNb
      by_cases hcf' : yc = fr
      · have hL0 : L = 0 := by omega
        have E6 := hid (show min ((fr : Int) + ((P0 : Int) + (n : Int)) - (P : Int)) (Y.length : Int) = (fr : Int) by have := E6.out; omega)
        subst hcf'
        go_wp2_with (first | ((with_reducible show wpList _ _ _ (({ dst := _, op := .call { callee := .builtin .min, args := #[_, _], argTypes := _ }, type := _, pos := _, after := _, guard := _ } : Oper) :: _) _ _); refine wpList_min2 _ _ _ .i64 ((P : Int) % (U : Int)) Y.length _ rfl rfl E5.out ?_; simp only [Act.put, List.setIfInBounds_toArray, List.set_cons_zero, List.set_cons_succ]) | ((with_reducible show wpList _ _ _ (({ dst := _, op := .call { callee := .builtin .min, args := #[_, _], argTypes := _ }, type := _, pos := _, after := _, guard := _ } : Oper) :: _) _ _); refine wpList_min2 _ _ _ .i64 _ Y.length _ rfl rfl E6.out ?_; simp only [Act.put, List.setIfInBounds_toArray, List.set_cons_zero, List.set_cons_succ]) | (at_builtin; refine wpList_append_new rfl _ _ 22 rfl .u8 (w.heap.size + 1) 5 i0 1 Try.underlying22 hi hz0 hz1 hz2 _ out.length _ rfl HO5.out.1 ya 0 0 pt rfl ⟨by rw [← HL.out]; exact hL0, .inl rfl⟩ (by unfold maxLen; omega) (by omega) (by omega) ?_))
        intro v6 w6 ho6 hg6 hwh
        have ho6' : Own .u8 5 w6 (w.heap.size + 1) v6 (out ++ pt).length (out ++ pt) := by have q := ho6.len; rw [q]; exact ho6
        clear ho6
        have ho6 := ho6'
        clear ho6'
        obtain ⟨a6, c6, rfl, -⟩ := ho6.rdc
        have lo6 := Own.lt HO5.out.1
        have hs6 : Shelf bm U Z T5 w6 E5' Q := Shelf.kept HS5.out hg6 (fun j hj => by have := (lo6 j hj).1; omega) HAP5.out
        have hap6 : ApV (.slice a6 (out ++ pt).length c6) E5' := ApV.put HAP5.out HS5.out.hold (fun b hb => (HOK.out.each b hb).2.2.1) hwh
        have hC6 : Chg bm (bm + 2) w w6 := chg_newR HC5.out hg6 (fun j hj => by have := (lo6 j hj).1; omega)
        have cf6 : w6.cell? ⟨w.heap.size, 0, none⟩ = some (.slice p m cp) := grown_cell hg6 cf5 (fun j hj => by have := (lo6 j hj).1; simp only; omega)
        have u6 : w6.cell? ⟨bm + 1, 0, none⟩ = some (.int .i64 U) := by have q := hs6.blk.cell 0; simpa using q
        have hz6 : w.heap.size < w6.heap.size := by have := hg6.size; omega
        have HS6 := hid hs6
        have HAP6 := hid hap6
        have HO6 := hid ho6
        have HC6 := hid hC6
        clear hs6 hap6 ho6 hC6 hg6 hwh cf5 u5 HS5 HAP5 HO5 HC5 lo6 HRP
        by_cases hsm : Y.length < U
        · have hsm' : (Y.length : Int) < (U : Int) := by omega
          have hfin := HRL.out hsm
          go_wp2
          go_ret
          have e1 : out ++ pt = R1 := by rw [← HR1.out, hfin]
          have e2 : Q = R2 := by rw [← HR2.out, hfin]
          exact ⟨_, rfl, by rw [← e1]; exact (RowI.of HO6.out).mono (by omega) (Nat.le_refl _), ⟨E5', T5, by rw [← e2]; exact HS6.out⟩, HC6.out⟩
        · have hsm' : ¬ (Y.length : Int) < (U : Int) := by omega
          obtain ⟨k', hk', hgo⟩ := HRM.out hsm
          have e1 : (out ++ pt) ++ (rg U Z xs F k' (P + (U - J)) Q).1 = R1 := by rw [← HR1.out, hgo, List.append_assoc]
          have e2 : (rg U Z xs F k' (P + (U - J)) Q).2 = R2 := by rw [← HR2.out, hgo]
          have H1 := hid e1
          have H2 := hid e2
          have H3 := hid hk'
          clear e1 e2 hk' hgo HRL HRM HR1 HR2
          go_wp2
          go_quiet (fail)
          go_wp2
          go_roundw
          case rel => exact ⟨k', P + (U - J), a6, c6, out ++ pt, Q, E5', T5, by rw [List.length_append], by go_num, HO6.out, HS6.out.below (below_drewN (Below.refl _ _) _), HAP6.out, HOK.out, by have := HT'.out; have := HT5.out; omega, by omega, by omega, H3.out, H1.out, H2.out, cf6, hz6, HC6.out.drewN _⟩
          case measure => simp [intOf]; omega
      · go_wp2_with (first | ((with_reducible show wpList _ _ _ (({ dst := _, op := .call { callee := .builtin .min, args := #[_, _], argTypes := _ }, type := _, pos := _, after := _, guard := _ } : Oper) :: _) _ _); refine wpList_min2 _ _ _ .i64 ((P : Int) % (U : Int)) Y.length _ rfl rfl E5.out ?_; simp only [Act.put, List.setIfInBounds_toArray, List.set_cons_zero, List.set_cons_succ]) | ((with_reducible show wpList _ _ _ (({ dst := _, op := .call { callee := .builtin .min, args := #[_, _], argTypes := _ }, type := _, pos := _, after := _, guard := _ } : Oper) :: _) _ _); refine wpList_min2 _ _ _ .i64 _ Y.length _ rfl rfl E6.out ?_; simp only [Act.put, List.setIfInBounds_toArray, List.set_cons_zero, List.set_cons_succ]) | (at_builtin; go_loud ((refine wpList_append_new rfl _ _ 22 rfl .u8 (w.heap.size + 1) 5 i0 1 Try.underlying22 hi hz0 hz1 hz2 _ out.length _ rfl HO5.out.1 _ (fr + L - fr) _ pt rfl ?_ (by unfold maxLen; omega) (by omega) (by omega) ?_); (exact HRP.out _ (fun h0 g off hg => by first | omega | (subst hg; simp [Addr.add_lit]))))))
        intro v6 w6 ho6 hg6 hwh
        have ho6' : Own .u8 5 w6 (w.heap.size + 1) v6 (out ++ pt).length (out ++ pt) := by have q := ho6.len; rw [q]; exact ho6
        clear ho6
        have ho6 := ho6'
        clear ho6'
        obtain ⟨a6, c6, rfl, -⟩ := ho6.rdc
        have lo6 := Own.lt HO5.out.1
        have hs6 : Shelf bm U Z T5 w6 E5' Q := Shelf.kept HS5.out hg6 (fun j hj => by have := (lo6 j hj).1; omega) HAP5.out
        have hap6 : ApV (.slice a6 (out ++ pt).length c6) E5' := ApV.put HAP5.out HS5.out.hold (fun b hb => (HOK.out.each b hb).2.2.1) hwh
        have hC6 : Chg bm (bm + 2) w w6 := chg_newR HC5.out hg6 (fun j hj => by have := (lo6 j hj).1; omega)
        have cf6 : w6.cell? ⟨w.heap.size, 0, none⟩ = some (.slice p m cp) := grown_cell hg6 cf5 (fun j hj => by have := (lo6 j hj).1; simp only; omega)
        have u6 : w6.cell? ⟨bm + 1, 0, none⟩ = some (.int .i64 U) := by have q := hs6.blk.cell 0; simpa using q
        have hz6 : w.heap.size < w6.heap.size := by have := hg6.size; omega
        have HS6 := hid hs6
        have HAP6 := hid hap6
        have HO6 := hid ho6
        have HC6 := hid hC6
        clear hs6 hap6 ho6 hC6 hg6 hwh cf5 u5 HS5 HAP5 HO5 HC5 lo6 HRP
        by_cases hsm : Y.length < U
        · have hsm' : (Y.length : Int) < (U : Int) := by omega
          have hfin := HRL.out hsm
          go_wp2
          go_ret
          have e1 : out ++ pt = R1 := by rw [← HR1.out, hfin]
          have e2 : Q = R2 := by rw [← HR2.out, hfin]
          exact ⟨_, rfl, by rw [← e1]; exact (RowI.of HO6.out).mono (by omega) (Nat.le_refl _), ⟨E5', T5, by rw [← e2]; exact HS6.out⟩, HC6.out⟩
        · have hsm' : ¬ (Y.length : Int) < (U : Int) := by omega
          obtain ⟨k', hk', hgo⟩ := HRM.out hsm
          have e1 : (out ++ pt) ++ (rg U Z xs F k' (P + (U - J)) Q).1 = R1 := by rw [← HR1.out, hgo, List.append_assoc]
          have e2 : (rg U Z xs F k' (P + (U - J)) Q).2 = R2 := by rw [← HR2.out, hgo]
          have H1 := hid e1
          have H2 := hid e2
          have H3 := hid hk'
          clear e1 e2 hk' hgo HRL HRM HR1 HR2
          go_wp2
          go_quiet (fail)
          go_wp2
          go_roundw
          case rel => exact ⟨k', P + (U - J), a6, c6, out ++ pt, Q, E5', T5, by rw [List.length_append], by go_num, HO6.out, HS6.out.below (below_drewN (Below.refl _ _) _), HAP6.out, HOK.out, by have := HT'.out; have := HT5.out; omega, by omega, by omega, H3.out, H1.out, H2.out, cf6, hz6, HC6.out.drewN _⟩
          case measure => simp [intOf]; omega
    · have hlt' : ¬ (P : Int) < (P0 : Int) + (n : Int) := by omega
      rw [rg_end (by omega)] at hr1 hr2
      simp only [List.append_nil] at hr1 hr2
      subst hr1
      subst hr2
      have HO := hid hown
      have HS := hid hs
      have HC := hid hchg
      clear hown hs hchg hR hok hok'
      go_wp2
      go_ret
      exact ⟨_, rfl, (RowI.of HO.out).mono (by omega) (Nat.le_refl _), ⟨E', T', HS.out⟩, HC.out⟩
end Go.Proofs.Ytckkkhabjfbngaa

namespace Go.Proofs.Ytckkkhabjfbngaa
open Go.RowKit Go.ChangeMaps Go.MapKept
set_option linter.unusedVariables false
set_option linter.unusedSimpArgs false

set_option maxHeartbeats 3200000 in
set_option maxRecDepth 20000 in
theorem implReadRange_any (u z : Int) (a : Option Addr) (l ca : Nat) (bs : List Bk) (p : Option Addr) (m cp : Nat) (xs : List Int) (at_ n M : Int) (w : World) (ha : RdB w a l bs) (hp : Rd .u8 w p m xs) (h1 : (l : Int) + byB bs ≤ 1048576) (hm : m ≤ 1048576) (hca : l ≤ ca) (hmc : m ≤ cp) (hcm : cp ≤ maxLen) :
    Calls Try.prog 20 #[.agg #[.int .i64 u, .int .i64 z, .slice a l ca], .agg #[.slice p m cp], .int .i64 at_, .int .i64 n, .int .i64 M] w fun e w' => ∃ vb va mid, e = .returned (.agg #[.int .i64 (rrCode u z bs xs at_ n M), vb, .int .i64 (rrU u z bs xs at_ n M), .int .i64 (rrZ u z bs xs at_ n M), va]) ∧ w.heap.size ≤ mid ∧ mid ≤ w'.heap.size ∧
      RowI .u8 5 w' w.heap.size mid vb (rrR u z bs xs at_ n M).length (rrR u z bs xs at_ n M) ∧ RowB 93 5 w' mid w'.heap.size va (rrS u z bs xs at_ n M).length (rrS u z bs xs at_ n M) ∧ Below w.heap.size w w' := by
  have B3 : ∀ o1 o2 o3, Below w.heap.size w (((w.alloc o1).alloc o2).alloc o3) := fun o1 o2 o3 => (((Below.refl _ _).alloc (Nat.le_refl _) o1).alloc (by simp) o2).alloc (by simp; omega) o3
  have hxl := hp.1
  have hle2 : w.heap.size ≤ w.heap.size + 1 + 1 := by omega
  have CF : Hid _ := fun w' ha' => readFault_any u z a l ca bs p m cp w' ha' (by omega) hca (by omega)
  have HA : Hid (RdB w a l bs) := ha
  have HP : Hid (Rd .u8 w p m xs) := hp
  have HCM := hid hcm
  obtain ⟨F, hF⟩ : ∃ F, F = asked u z bs m := ⟨_, rfl⟩
  rw [← hF] at CF
  rw [← hxl] at hF
  have HF : Hid (F = asked u z bs xs.length) := hF
  clear ha hF hca hp hcm
  go_enter Try.func20, Try.ntmps20
  go_wp2_with fail
  refine Calls.mono (CF.out _ (HA.out.below (B3 _ _ _))) ?_
  rintro e w2 ⟨rfl, hb2⟩
  have hb := (B3 _ _ _).trans (hb2.mono (by simp; omega))
  have q0 : w2.cell? ⟨w.heap.size, 0, none⟩ = some (.int .i64 u) := cell_later hb2 (by simp [go_sem])
  have q1 : w2.cell? ⟨w.heap.size, 1, none⟩ = some (.int .i64 z) := cell_later hb2 (by simp [go_sem])
  have q2 : w2.cell? ⟨w.heap.size, 2, none⟩ = some (.slice a l ca) := cell_later hb2 (by simp [go_sem])
  have qf : w2.cell? ⟨w.heap.size + 1, 0, none⟩ = some (.slice p m cp) := cell_later hb2 (by simp [go_sem])
  have rb : Blk w2 (w.heap.size + 2) #[.int .i64 0, .slice none 0 0, .int .i64 0, .int .i64 0, .slice none 0 0] 32 := by
    have hq := Blk.new ((w.alloc (Obj.cells #[Value.int .i64 u, Value.int .i64 z, Value.slice a l ca] 26)).alloc (Obj.cells #[Value.slice p m cp] 28)) #[.int .i64 0, .slice none 0 0, .int .i64 0, .int .i64 0, .slice none 0 0] 32
    rw [World.size_alloc, World.size_alloc] at hq
    exact (hb2.block (w.heap.size + 2) (by simp)).trans hq
  have hz2 : w.heap.size + 2 < w2.heap.size := rb.lt
  clear hb2
  by_cases hF0 : F = 0
  case neg =>
    have hF0' : (F == 0) = false := by simpa using hF0
    have E := hid (rr_bad (at_ := at_) (n := n) (M := M) (rr_asked (show asked u z bs xs.length ≠ 0 by rw [← HF.out]; exact hF0)) (by rw [← HF.out]; exact hF0))
    rw [← HF.out] at E
    have d0 := rb.cell 0
    have d1 := rb.cell 1
    have d2 := rb.cell 2
    have d3 := rb.cell 3
    have d4 := rb.cell 4
    have f0 := rb.frozen 0
    have f1 := rb.frozen 1
    have f2 := rb.frozen 2
    have f3 := rb.frozen 3
    have f4 := rb.frozen 4
    simp at d0 d1 d2 d3 d4
    clear rb
    go_wp2
    refine bodyPost_ret (v := .agg #[.int .i64 F, .slice none 0 0, .int .i64 0, .int .i64 0, .slice none 0 0]) (by simp [results, Try.results20, go_sem, d0, d1, d2, d3, d4]) rfl ⟨.slice none 0 0, .slice none 0 0, w.heap.size, by rw [E.out.1, E.out.2.1, E.out.2.2.1], Nat.le_refl _, ?_, by rw [E.out.2.2.2.1]; exact RowI.nil _ _ _ _ _, by rw [E.out.2.2.2.2]; exact RowB.nil _ _ _ _ _, ?_⟩
    · simpa using hb.size
    · exact ((((hb.setCell hle2 _).setCell hle2 _).setCell hle2 _).setCell hle2 _).setCell hle2 _
  subst hF0
  by_cases hbad : rrBad at_ n M
  · have E := hid (rr_bad (rr_range HF.out.symm hbad) (by omega))
    by_cases hn0 : at_ < 0
    · have hn0' : decide (at_ < 0) = true := decide_eq_true hn0
      have d0 := rb.cell 0
      have d1 := rb.cell 1
      have d2 := rb.cell 2
      have d3 := rb.cell 3
      have d4 := rb.cell 4
      have f0 := rb.frozen 0
      have f1 := rb.frozen 1
      have f2 := rb.frozen 2
      have f3 := rb.frozen 3
      have f4 := rb.frozen 4
      simp at d0 d1 d2 d3 d4
      clear rb
      go_wp2
      refine bodyPost_ret (v := .agg #[.int .i64 3, .slice none 0 0, .int .i64 0, .int .i64 0, .slice none 0 0]) (by simp [results, Try.results20, go_sem, d0, d1, d2, d3, d4]) rfl ⟨.slice none 0 0, .slice none 0 0, w.heap.size, by rw [E.out.1, E.out.2.1, E.out.2.2.1], Nat.le_refl _, ?_, by rw [E.out.2.2.2.1]; exact RowI.nil _ _ _ _ _, by rw [E.out.2.2.2.2]; exact RowB.nil _ _ _ _ _, ?_⟩
      · simpa using hb.size
      · exact ((((hb.setCell hle2 _).setCell hle2 _).setCell hle2 _).setCell hle2 _).setCell hle2 _
    by_cases hn4 : 400 < at_
    · have hn4' : decide (400 < at_) = true := decide_eq_true hn4
      have d0 := rb.cell 0
      have d1 := rb.cell 1
      have d2 := rb.cell 2
      have d3 := rb.cell 3
      have d4 := rb.cell 4
      have f0 := rb.frozen 0
      have f1 := rb.frozen 1
      have f2 := rb.frozen 2
      have f3 := rb.frozen 3
      have f4 := rb.frozen 4
      simp at d0 d1 d2 d3 d4
      clear rb
      go_wp2
      refine bodyPost_ret (v := .agg #[.int .i64 3, .slice none 0 0, .int .i64 0, .int .i64 0, .slice none 0 0]) (by simp [results, Try.results20, go_sem, d0, d1, d2, d3, d4]) rfl ⟨.slice none 0 0, .slice none 0 0, w.heap.size, by rw [E.out.1, E.out.2.1, E.out.2.2.1], Nat.le_refl _, ?_, by rw [E.out.2.2.2.1]; exact RowI.nil _ _ _ _ _, by rw [E.out.2.2.2.2]; exact RowB.nil _ _ _ _ _, ?_⟩
      · simpa using hb.size
      · exact ((((hb.setCell hle2 _).setCell hle2 _).setCell hle2 _).setCell hle2 _).setCell hle2 _
    by_cases hn5 : n < 0
    · have hn5' : decide (n < 0) = true := decide_eq_true hn5
      have d0 := rb.cell 0
      have d1 := rb.cell 1
      have d2 := rb.cell 2
      have d3 := rb.cell 3
      have d4 := rb.cell 4
      have f0 := rb.frozen 0
      have f1 := rb.frozen 1
      have f2 := rb.frozen 2
      have f3 := rb.frozen 3
      have f4 := rb.frozen 4
      simp at d0 d1 d2 d3 d4
      clear rb
      go_wp2
      refine bodyPost_ret (v := .agg #[.int .i64 3, .slice none 0 0, .int .i64 0, .int .i64 0, .slice none 0 0]) (by simp [results, Try.results20, go_sem, d0, d1, d2, d3, d4]) rfl ⟨.slice none 0 0, .slice none 0 0, w.heap.size, by rw [E.out.1, E.out.2.1, E.out.2.2.1], Nat.le_refl _, ?_, by rw [E.out.2.2.2.1]; exact RowI.nil _ _ _ _ _, by rw [E.out.2.2.2.2]; exact RowB.nil _ _ _ _ _, ?_⟩
      · simpa using hb.size
      · exact ((((hb.setCell hle2 _).setCell hle2 _).setCell hle2 _).setCell hle2 _).setCell hle2 _
    by_cases hn6 : 400 < n
    · have hn6' : decide (400 < n) = true := decide_eq_true hn6
      have d0 := rb.cell 0
      have d1 := rb.cell 1
      have d2 := rb.cell 2
      have d3 := rb.cell 3
      have d4 := rb.cell 4
      have f0 := rb.frozen 0
      have f1 := rb.frozen 1
      have f2 := rb.frozen 2
      have f3 := rb.frozen 3
      have f4 := rb.frozen 4
      simp at d0 d1 d2 d3 d4
      clear rb
      go_wp2
      refine bodyPost_ret (v := .agg #[.int .i64 3, .slice none 0 0, .int .i64 0, .int .i64 0, .slice none 0 0]) (by simp [results, Try.results20, go_sem, d0, d1, d2, d3, d4]) rfl ⟨.slice none 0 0, .slice none 0 0, w.heap.size, by rw [E.out.1, E.out.2.1, E.out.2.2.1], Nat.le_refl _, ?_, by rw [E.out.2.2.2.1]; exact RowI.nil _ _ _ _ _, by rw [E.out.2.2.2.2]; exact RowB.nil _ _ _ _ _, ?_⟩
      · simpa using hb.size
      · exact ((((hb.setCell hle2 _).setCell hle2 _).setCell hle2 _).setCell hle2 _).setCell hle2 _
    have CM : Hid _ := fun w' => isMost_is M false w' (by unfold rrBad at hbad; simp; omega)
    clear hbad
    have d0 := rb.cell 0
    have d1 := rb.cell 1
    have d2 := rb.cell 2
    have d3 := rb.cell 3
    have d4 := rb.cell 4
    have f0 := rb.frozen 0
    have f1 := rb.frozen 1
    have f2 := rb.frozen 2
    have f3 := rb.frozen 3
    have f4 := rb.frozen 4
    simp at d0 d1 d2 d3 d4
    clear rb
    go_wp2_with (go_at_call 48; refine (CM.out _).mono ?_; rintro e w9 ⟨rfl, rfl⟩)
    refine bodyPost_ret (v := .agg #[.int .i64 3, .slice none 0 0, .int .i64 0, .int .i64 0, .slice none 0 0]) (by simp [results, Try.results20, go_sem, d0, d1, d2, d3, d4]) rfl ⟨.slice none 0 0, .slice none 0 0, w.heap.size, by rw [E.out.1, E.out.2.1, E.out.2.2.1], Nat.le_refl _, ?_, by rw [E.out.2.2.2.1]; exact RowI.nil _ _ _ _ _, by rw [E.out.2.2.2.2]; exact RowB.nil _ _ _ _ _, ?_⟩
    · simpa using hb.size
    · exact ((((hb.setCell hle2 _).setCell hle2 _).setCell hle2 _).setCell hle2 _).setCell hle2 _
  have EE := hid (rr_good HF.out.symm hbad)
  obtain ⟨hok, hx4⟩ := asked_ok HF.out.symm
  unfold rrBad at hbad
  have CM : Hid _ := fun w' => isMost_is M true w' (by simp; omega)
  have hn0 : ¬ at_ < 0 := by omega
  have hn4 : ¬ 400 < at_ := by omega
  have hn5 : ¬ n < 0 := by omega
  have hn6 : ¬ 400 < n := by omega
  obtain ⟨P0, rfl⟩ : ∃ N : Nat, at_ = (N : Int) := ⟨at_.toNat, by omega⟩
  obtain ⟨nn, rfl⟩ : ∃ N : Nat, n = (N : Int) := ⟨n.toNat, by omega⟩
  obtain ⟨MM, rfl⟩ : ∃ MM : Nat, M = (MM : Int) := ⟨M.toNat, by omega⟩
  obtain ⟨U, rfl⟩ : ∃ U : Nat, u = (U : Int) := ⟨u.toNat, by have := hok.u1; omega⟩
  have hu1 := hok.u1
  have hl6 : bs.length ≤ 6 := by have := hok.len; have := hok.z2; omega
  have hnl : bs.length = l := HA.out.len
  obtain ⟨R1, R2, hR⟩ : ∃ R1 R2, rg U z xs (P0 + nn) (nn + 1) P0 bs = (R1, R2) := ⟨_, _, rfl⟩
  have hRl := rg_len (E := P0 + nn) (by omega) (nn + 1) P0 bs hok hx4
  rw [hR] at hRl
  simp only at hRl
  have hby := okC_byB hRl.2
  have hq6 : R2.length ≤ 6 := by have := hRl.2.len; have := hRl.2.z2; omega
  unfold rgOf at EE
  simp only [Int.toNat_natCast] at EE
  rw [hR] at EE
  simp only at EE
  have CS : Hid _ := fun w' ha' => shelfOf_any U z a l ca bs w' ha' hok (by omega)
  have CT : Hid _ := fun bm T E w' (hs : Shelf bm U z T w' E bs) (hr : Rd .u8 w' p m xs) hpa (hT : T ≤ 1000) => read_any bm U z T E bs P0 nn MM p m cp xs w' hs hok hr hpa (by omega) hmc HCM.out (by omega) (by omega) (by omega) (by omega) hT R1 R2 hR
  have hplt : ∀ ad, p = some ad → m = 0 ∨ ad.block < w.heap.size := fun ad had => by
    rcases HP.out.2 with h0 | ⟨b, off, hb0, hcc⟩
    · exact .inl h0
    · by_cases hm0 : m = 0
      · exact .inl hm0
      · rw [had] at hb0
        have := block_lt_of_cell (hcc 0 (by omega))
        simp only [Option.some.injEq] at hb0
        rw [hb0]
        exact .inr this
  clear hok hR
  go_wp2_with fail
  refine (CM.out _).mono ?_
  rintro e w9 ⟨rfl, rfl⟩
  go_wp2_with fail
  refine Calls.mono (CS.out _ (HA.out.below hb)) ?_
  rintro e w3 ⟨E, rfl, hs3, hb3⟩
  have hb03 := hb.trans (hb3.mono hb.size)
  have rb3 : Blk w3 (w.heap.size + 2) #[.int .i64 0, .slice none 0 0, .int .i64 0, .int .i64 0, .slice none 0 0] 32 := (hb3.block _ hz2).trans rb
  replace qf := cell_later hb3 qf
  have hz3 := hs3.blk.lt
  have hbz := hb3.size
  have CT3 := hid (CT.out _ _ _ w3 hs3 (HP.out.below hb03) (fun ad had => by rcases hplt ad had with q | q; exact .inl q; exact .inr (.inl (by omega))) (by omega))
  clear rb q0 q1 q2 hs3 hb3 CT CS CF
  go_wp2_with fail
  refine Calls.mono CT3.out ?_
  rintro e w5 ⟨v5, rfl, hr5, ⟨E4, T4, hs5⟩, hC4⟩
  obtain ⟨a5, c5, hv5, -, -⟩ := hr5.shape
  subst hv5
  have hb05 : Below w.heap.size w w5 := below_chg hb03 hC4 (by omega) (by omega)
  have rb5 : Blk w5 (w.heap.size + 2) #[.int .i64 0, .slice none 0 0, .int .i64 0, .int .i64 0, .slice none 0 0] 32 := (hC4.block _ rb3.lt (by omega)).trans rb3
  have hz5 := hC4.size
  have hE4 := hs5.hold.1
  have CK := hid (cache_any _ U z T4 E4 R2 w5 hs5 (by omega) (by omega))
  clear CT3 hC4 rb3 hs5
  go_wp2_with fail
  refine Calls.mono CK.out ?_
  rintro e w6 ⟨v6, rfl, hr6, hb6⟩
  obtain ⟨a6, c6, hv6, -, -⟩ := hr6.shape
  subst hv6
  have hb06 := hb05.trans (hb6.mono hb05.size)
  have hr56 := hr5.below hb6
  have rb : Blk w6 (w.heap.size + 2) #[.int .i64 0, .slice none 0 0, .int .i64 0, .int .i64 0, .slice none 0 0] 32 := (hb6.block _ rb5.lt).trans rb5
  have hz6 := hb6.size
  have d0 := rb.cell 0
  have d1 := rb.cell 1
  have d2 := rb.cell 2
  have d3 := rb.cell 3
  have d4 := rb.cell 4
  have f0 := rb.frozen 0
  have f1 := rb.frozen 1
  have f2 := rb.frozen 2
  have f3 := rb.frozen 3
  have f4 := rb.frozen 4
  simp at d0 d1 d2 d3 d4
  have HR5 := hid hr56
  have HR6 := hid hr6
  have hg5 : ∀ x0 x1 x2 x3 x4, w6.grownBy (((((w6.setCell ⟨w.heap.size + 2, 0, none⟩ x0).setCell ⟨w.heap.size + 2, 1, none⟩ x1).setCell ⟨w.heap.size + 2, 2, none⟩ x2).setCell ⟨w.heap.size + 2, 3, none⟩ x3).setCell ⟨w.heap.size + 2, 4, none⟩ x4) (some (w.heap.size + 2)) := fun x0 x1 x2 x3 x4 => grownT (grownT (grownT (grownT (set_grown _ _ _ _) (set_grown _ _ _ _)) (set_grown _ _ _ _)) (set_grown _ _ _ _)) (set_grown _ _ _ _)
  clear hr5 hr56 hr6 rb rb5 CK hb6
  go_wp2
  refine bodyPost_ret (v := .agg #[.int .i64 0, .slice a5 R1.length c5, .int .i64 U, .int .i64 z, .slice a6 R2.length c6]) (by simp [results, Try.results20, go_sem, d0, d1, d2, d3, d4]) rfl ⟨.slice a5 R1.length c5, .slice a6 R2.length c6, w5.heap.size, by rw [EE.out.1, EE.out.2.1, EE.out.2.2.1], by omega, ?_, ?_, ?_, ?_⟩
  · simpa [World.setCell] using hz6
  · rw [EE.out.2.2.2.1]
    exact (RowI.chg HR5.out (Chg.one (hg5 (.int .i64 0) (.slice a5 R1.length c5) (.int .i64 U) (.int .i64 z) (.slice a6 R2.length c6))) (.inr (by omega))).mono (by omega) (Nat.le_refl _)
  · rw [EE.out.2.2.2.2]
    exact (RowB.chg HR6.out (Chg.one (hg5 (.int .i64 0) (.slice a5 R1.length c5) (.int .i64 U) (.int .i64 z) (.slice a6 R2.length c6))) (.inr (by omega))).mono (Nat.le_refl _) (by simp [World.setCell])
  · exact ((((hb06.setCell hle2 _).setCell hle2 _).setCell hle2 _).setCell hle2 _).setCell hle2 _
end Go.Proofs.Ytckkkhabjfbngaa
