/-
  ForgetFrom, of the program.
-/
import Derived.Test.YtckkkhabjfbngaaShelf2
import Derived.Test.YtckkkhabjfbngaaShelf3
import Derived.Test.YtckkkhabjfbngaaShelf4
import Derived.Test.YtckkkhabjfbngaaCache2
namespace Go.Proofs.Ytckkkhabjfbngaa
open Go.RowKit Go.ChangeMaps Go.MapKept
set_option linter.unusedVariables false
set_option linter.unusedSimpArgs false

def fgCode (u z : Int) (bs : List Bk) (p : Int) : Int := if cacheFault u z bs ≠ 0 then cacheFault u z bs else if p < 0 then 3 else 0
def fgU (u z : Int) (bs : List Bk) (p : Int) : Int := if fgCode u z bs p = 0 then u else 0
def fgZ (u z : Int) (bs : List Bk) (p : Int) : Int := if fgCode u z bs p = 0 then z else 0
def fgQ (u z : Int) (bs : List Bk) (p : Int) : List Bk := if fgCode u z bs p = 0 then bs.filter (fun b => decide (b.1 < wrap64 (p.tdiv u))) else []
def fgRs : List Int := []

theorem fg_fault {u z p : Int} {bs : List Bk} (h : cacheFault u z bs ≠ 0) : fgCode u z bs p = cacheFault u z bs ∧ fgU u z bs p = 0 ∧ fgZ u z bs p = 0 ∧ fgQ u z bs p = [] := by
  have e : fgCode u z bs p = cacheFault u z bs := if_pos h
  refine ⟨e, ?_, ?_, ?_⟩
  · unfold fgU; rw [e, if_neg h]
  · unfold fgZ; rw [e, if_neg h]
  · unfold fgQ; rw [e, if_neg h]
theorem fg_range {u z p : Int} {bs : List Bk} (h : cacheFault u z bs = 0) (hp : p < 0) : fgCode u z bs p = 3 ∧ fgU u z bs p = 0 ∧ fgZ u z bs p = 0 ∧ fgQ u z bs p = [] := by
  have e : fgCode u z bs p = 3 := (if_neg (fun k => k h)).trans (if_pos hp)
  refine ⟨e, ?_, ?_, ?_⟩
  · unfold fgU; rw [e, if_neg (by omega)]
  · unfold fgZ; rw [e, if_neg (by omega)]
  · unfold fgQ; rw [e, if_neg (by omega)]
theorem fg_good {u z p : Int} {bs : List Bk} (h : cacheFault u z bs = 0) (hp : ¬ p < 0) : fgCode u z bs p = 0 ∧ fgU u z bs p = u ∧ fgZ u z bs p = z ∧ fgQ u z bs p = bs.filter (fun b => decide (b.1 < wrap64 (p.tdiv u))) := by
  have e : fgCode u z bs p = 0 := (if_neg (fun k => k h)).trans (if_neg hp)
  exact ⟨e, if_pos e, if_pos e, if_pos e⟩

theorem byB_filter (p : Bk → Bool) : ∀ bs : List Bk, byB (bs.filter p) ≤ byB bs
  | [] => Nat.le_refl _
  | b :: bs => by
    have ih := byB_filter p bs
    have e1 : byB (b :: bs) = b.2.length + byB bs := rfl
    rw [List.filter_cons]
    split
    · have e2 : byB (b :: bs.filter p) = b.2.length + byB (bs.filter p) := rfl
      omega
    · omega

theorem byB_ok (u : Int) : ∀ bs : List Bk, (∀ b ∈ bs, (b.2.length : Int) ≤ u) → (byB bs : Int) ≤ u * bs.length
  | [], _ => by simp [byB]
  | b :: bs, h => by
    have ih := byB_ok u bs (fun x hx => h x (List.mem_cons_of_mem _ hx))
    have hb := h b List.mem_cons_self
    have e1 : byB (b :: bs) = b.2.length + byB bs := rfl
    rw [e1, List.length_cons]
    have e2 : u * ((bs.length + 1 : Nat) : Int) = u * bs.length + u := by
      rw [Int.natCast_add, Int.mul_add]; simp
    rw [e2]
    omega

theorem okC_byB {u z : Int} {bs : List Bk} (h : OkC u z bs) : (byB bs : Int) ≤ 384 := by
  have h1 := byB_ok u bs (fun b hb => (h.each b hb).2.2.2)
  have h2 := h.len
  have h3 := h.z2
  have h4 := h.u2
  have h5 := h.u1
  have h6 : u * bs.length ≤ 64 * 6 := Int.mul_le_mul h4 (by omega) (by omega) (by omega)
  omega

theorem fgQ_len (u z : Int) (bs : List Bk) (p : Int) : ((fgQ u z bs p).length : Int) + byB (fgQ u z bs p) ≤ 1000000 := by
  unfold fgQ
  split
  · next h =>
    have hf : cacheFault u z bs = 0 := by
      by_cases h0 : cacheFault u z bs = 0
      · exact h0
      · have := (fg_fault (p := p) h0).1; omega
    have hk := okC_of hf
    have h1 := okC_byB hk
    have h2 := byB_filter (fun b => decide (b.1 < wrap64 (p.tdiv u))) bs
    have h3 := List.length_filter_le (fun b : Bk => decide (b.1 < wrap64 (p.tdiv u))) bs
    have h4 := hk.len
    have h5 := hk.z2
    omega
  · simp [byB]

theorem OwnE.ok {U : Int} {w : World} {b : Nat} {B : List En} (h : OwnE U w b B) : ∀ e ∈ B, KeyOk U e.num := by
  obtain ⟨es, clock, _, _, _, hk⟩ := h
  exact hk

set_option maxHeartbeats 3200000 in
set_option maxRecDepth 20000 in
theorem implForgetFrom_any (u z : Int) (a : Option Addr) (n ca : Nat) (bs : List Bk) (p : Int) (w : World) (ha : RdB w a n bs) (h1 : (n : Int) + byB bs ≤ 1048576) (hca : n ≤ ca) :
    Calls Try.prog 23 #[.agg #[.int .i64 u, .int .i64 z, .slice a n ca], .int .i64 p] w fun e w' => ∃ vb va mid, e = .returned (.agg #[.int .i64 (fgCode u z bs p), vb, .int .i64 (fgU u z bs p), .int .i64 (fgZ u z bs p), va]) ∧ w.heap.size ≤ mid ∧ mid ≤ w'.heap.size ∧
      RowI .u8 5 w' w.heap.size mid vb fgRs.length fgRs ∧ RowB 93 5 w' mid w'.heap.size va (fgQ u z bs p).length (fgQ u z bs p) ∧ Below w.heap.size w w' := by
  have B2 : ∀ o1 o2, Below w.heap.size w ((w.alloc o1).alloc o2) := fun o1 o2 => ((Below.refl _ _).alloc (Nat.le_refl _) o1).alloc (by simp) o2
  have CF : Hid _ := fun w' ha' => implCacheFault_any u z a n ca bs w' ha' (by omega) hca
  have hlen := ha.len
  have HA : Hid (RdB w a n bs) := ha
  obtain ⟨F, hF⟩ : ∃ F, F = cacheFault u z bs := ⟨_, rfl⟩
  rw [← hF] at CF
  have HF : Hid _ := hF
  clear ha hF hca
  go_enter Try.func23, Try.ntmps23
  go_wp2_with fail
  refine Calls.mono (CF.out _ (HA.out.below (B2 _ _))) ?_
  rintro e w2 ⟨rfl, hb2⟩
  have hb := (B2 _ _).trans (hb2.mono (by simp; omega))
  have q0 : w2.cell? ⟨w.heap.size, 0, none⟩ = some (.int .i64 u) := cell_later hb2 (by simp [go_sem])
  have q1 : w2.cell? ⟨w.heap.size, 1, none⟩ = some (.int .i64 z) := cell_later hb2 (by simp [go_sem])
  have q2 : w2.cell? ⟨w.heap.size, 2, none⟩ = some (.slice a n ca) := cell_later hb2 (by simp [go_sem])
  have rb : Blk w2 (w.heap.size + 1) #[.int .i64 0, .slice none 0 0, .int .i64 0, .int .i64 0, .slice none 0 0] 32 := by
    have hq := Blk.new (w.alloc (Obj.cells #[Value.int .i64 u, Value.int .i64 z, Value.slice a n ca] 26)) #[.int .i64 0, .slice none 0 0, .int .i64 0, .int .i64 0, .slice none 0 0] 32
    rw [World.size_alloc] at hq
    exact (hb2.block (w.heap.size + 1) (by simp)).trans hq
  have hz2 : w.heap.size + 1 < w2.heap.size := rb.lt
  clear hb2
  by_cases hF0 : F = 0
  case neg =>
    have hF0' : (F == 0) = false := by simpa using hF0
    obtain ⟨e1, e2, e3, e4⟩ := fg_fault (p := p) (show cacheFault u z bs ≠ 0 by rw [← HF.out]; exact hF0)
    rw [← HF.out] at e1
    have E : Hid _ := And.intro e1 (And.intro e2 (And.intro e3 e4))
    clear e1 e2 e3 e4
    have d0 := rb.cell 0
    have d1 := rb.cell 1
    have d2 := rb.cell 2
    have d3 := rb.cell 3
    have d4 := rb.cell 4
    have f0 := rb.frozen 0
    have f1 := rb.frozen 1
    have f2 := rb.frozen 2
    have f3 := rb.frozen 3
    have f4 := rb.frozen 4
    simp at d0 d1 d2 d3 d4
    clear rb
    go_wp2
    refine bodyPost_ret (v := .agg #[.int .i64 F, .slice none 0 0, .int .i64 0, .int .i64 0, .slice none 0 0]) (by simp [results, Try.results23, go_sem, d0, d1, d2, d3, d4]) rfl ⟨.slice none 0 0, .slice none 0 0, w.heap.size, by rw [E.out.1, E.out.2.1, E.out.2.2.1], Nat.le_refl _, ?_, RowI.nil _ _ _ _ _, by rw [E.out.2.2.2]; exact RowB.nil _ _ _ _ _, ?_⟩
    · simpa using hb.size
    · exact ((((hb.setCell (by simp) _).setCell (by simp) _).setCell (by simp) _).setCell (by simp) _).setCell (by simp) _
  subst hF0
  by_cases hp : p < 0
  · obtain ⟨e1, e2, e3, e4⟩ := fg_range (p := p) HF.out.symm hp
    have E : Hid _ := And.intro e1 (And.intro e2 (And.intro e3 e4))
    clear e1 e2 e3 e4
    have d0 := rb.cell 0
    have d1 := rb.cell 1
    have d2 := rb.cell 2
    have d3 := rb.cell 3
    have d4 := rb.cell 4
    have f0 := rb.frozen 0
    have f1 := rb.frozen 1
    have f2 := rb.frozen 2
    have f3 := rb.frozen 3
    have f4 := rb.frozen 4
    simp at d0 d1 d2 d3 d4
    clear rb
    go_wp2
    refine bodyPost_ret (v := .agg #[.int .i64 3, .slice none 0 0, .int .i64 0, .int .i64 0, .slice none 0 0]) (by simp [results, Try.results23, go_sem, d0, d1, d2, d3, d4]) rfl ⟨.slice none 0 0, .slice none 0 0, w.heap.size, by rw [E.out.1, E.out.2.1, E.out.2.2.1], Nat.le_refl _, ?_, RowI.nil _ _ _ _ _, by rw [E.out.2.2.2]; exact RowB.nil _ _ _ _ _, ?_⟩
    · simpa using hb.size
    · exact ((((hb.setCell (by simp) _).setCell (by simp) _).setCell (by simp) _).setCell (by simp) _).setCell (by simp) _
  obtain ⟨e1, e2, e3, e4⟩ := fg_good (p := p) HF.out.symm hp
  have EE : Hid _ := And.intro e1 (And.intro e2 (And.intro e3 e4))
  clear e1 e2 e3 e4
  have hok := okC_of HF.out.symm
  have hby := okC_byB hok
  have hu1 := hok.u1
  have hu2 := hok.u2
  have hl6 : n ≤ 6 := by have := hok.len; have := hok.z2; omega
  have CS : Hid _ := fun w' ha' => shelfOf_any u z a n ca bs w' ha' hok (by omega)
  clear hok
  go_wp2_with fail
  refine Calls.mono (CS.out _ (HA.out.below hb)) ?_
  rintro e w3 ⟨E, rfl, hs3, hb3⟩
  have hEl := hs3.hold.1
  have hb03 := hb.trans (hb3.mono hb.size)
  have rb3 : Blk w3 (w.heap.size + 1) #[.int .i64 0, .slice none 0 0, .int .i64 0, .int .i64 0, .slice none 0 0] 32 := (hb3.block _ hz2).trans rb
  replace q0 := cell_later hb3 q0
  have hz3 := hs3.blk.lt
  have hbz := hb3.size
  have hlt0 : w.heap.size < w3.heap.size := by omega
  have hdiv : ¬ u = 0 := by omega
  have CG0 := forget_any (w2.heap.size + 1) u z n (wrap64 (p.tdiv u)) E bs w3 hs3 hs3.own.ok
  have CG : Hid _ := CG0
  clear CG0
  clear rb q1 q2 hs3 hb3
  go_wp2_with fail
  refine Calls.mono CG.out ?_
  rintro e w4 ⟨rfl, hs4, hC4⟩
  have hb04 : Below w.heap.size w w4 := below_chg hb03 hC4 (by omega) (by omega)
  have rb4 : Blk w4 (w.heap.size + 1) #[.int .i64 0, .slice none 0 0, .int .i64 0, .int .i64 0, .slice none 0 0] 32 := (hC4.block _ rb3.lt (by omega)).trans rb3
  have hz4 := hC4.size
  have hfl := List.length_filter_le (fun e : En => decide (e.num < wrap64 (p.tdiv u))) E
  have hfb := byB_filter (fun b : Bk => decide (b.1 < wrap64 (p.tdiv u))) bs
  have CK : Hid _ := cache_any (w2.heap.size + 1) u z n (E.filter fun e => decide (e.num < wrap64 (p.tdiv u))) (bs.filter fun b => decide (b.1 < wrap64 (p.tdiv u))) w4 hs4 (by omega) (by omega)
  generalize hQ : (bs.filter fun b => decide (b.1 < wrap64 (p.tdiv u))) = Q at EE CK hfb
  clear CG hs4 hC4 hQ rb3 hfb hfl q0
  go_wp2_with fail
  refine Calls.mono CK.out ?_
  rintro e w5 ⟨v5, rfl, hr5, hb5⟩
  obtain ⟨a5, c5, hv5, -, -⟩ := hr5.shape
  subst hv5
  have hb05 := hb04.trans (hb5.mono hb04.size)
  have rb5 : Blk w5 (w.heap.size + 1) #[.int .i64 0, .slice none 0 0, .int .i64 0, .int .i64 0, .slice none 0 0] 32 := (hb5.block _ rb4.lt).trans rb4
  have d0 := rb5.cell 0
  have d1 := rb5.cell 1
  have d2 := rb5.cell 2
  have d3 := rb5.cell 3
  have d4 := rb5.cell 4
  have f0 := rb5.frozen 0
  have f1 := rb5.frozen 1
  have f2 := rb5.frozen 2
  have f3 := rb5.frozen 3
  have f4 := rb5.frozen 4
  simp at d0 d1 d2 d3 d4
  have hlt4 := rb4.lt
  have HR5 : Hid _ := hr5
  have hg5 : ∀ x0 x1 x2 x3 x4, w5.grownBy (((((w5.setCell ⟨w.heap.size + 1, 0, none⟩ x0).setCell ⟨w.heap.size + 1, 1, none⟩ x1).setCell ⟨w.heap.size + 1, 2, none⟩ x2).setCell ⟨w.heap.size + 1, 3, none⟩ x3).setCell ⟨w.heap.size + 1, 4, none⟩ x4) (some (w.heap.size + 1)) := fun x0 x1 x2 x3 x4 => grownT (grownT (grownT (grownT (set_grown _ _ _ _) (set_grown _ _ _ _)) (set_grown _ _ _ _)) (set_grown _ _ _ _)) (set_grown _ _ _ _)
  clear hr5 rb5 rb4 CK hb5
  go_wp2
  refine bodyPost_ret (v := .agg #[.int .i64 0, .slice none 0 0, .int .i64 u, .int .i64 z, .slice a5 Q.length c5]) (by simp [results, Try.results23, go_sem, d0, d1, d2, d3, d4]) rfl ⟨.slice none 0 0, .slice a5 Q.length c5, w.heap.size, by rw [EE.out.1, EE.out.2.1, EE.out.2.2.1], Nat.le_refl _, ?_, RowI.nil _ _ _ _ _, ?_, ?_⟩
  · simpa [World.setCell] using hb05.size
  · rw [EE.out.2.2.2]
    have hq := RowB.chg HR5.out (Chg.one (hg5 (.int .i64 0) (.slice none 0 0) (.int .i64 u) (.int .i64 z) (.slice a5 Q.length c5))) (.inr (by omega))
    exact hq.mono (by omega) (by simp [World.setCell])
  · exact ((((hb05.setCell (by simp) _).setCell (by simp) _).setCell (by simp) _).setCell (by simp) _).setCell (by simp) _
end Go.Proofs.Ytckkkhabjfbngaa
