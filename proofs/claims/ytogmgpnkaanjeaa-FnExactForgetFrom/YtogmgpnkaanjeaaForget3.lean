/-
  ForgetFrom, of the specification: the whole.
-/
import Derived.Test.YtogmgpnkaanjeaaForget2
namespace Go.Proofs.Ytogmgpnkaanjeaa
open Go.RowKit Go.ChangeMaps Go.MapKept
set_option linter.unusedVariables false
set_option linter.unusedSimpArgs false

set_option maxHeartbeats 3200000 in
set_option maxRecDepth 20000 in
theorem specForgetFrom_any (u z : Int) (a : Option Addr) (n ca : Nat) (bs : List Bk) (p : Int) (w : World) (ha : RdB w a n bs) (h1 : (n : Int) + byB bs ≤ 1048576) :
    Calls Try.prog 24 #[.agg #[.int .i64 u, .int .i64 z, .slice a n ca], .int .i64 p] w fun e w' => ∃ vb va, e = .returned (.agg #[.int .i64 (fgCode u z bs p), vb, .int .i64 (fgU u z bs p), .int .i64 (fgZ u z bs p), va]) ∧
      RowI .u8 5 w' w.heap.size w'.heap.size vb fgRs.length fgRs ∧ RowB 93 5 w' w.heap.size w'.heap.size va (fgQ u z bs p).length (fgQ u z bs p) ∧ Below w.heap.size w w' := by
  have B2 : ∀ o1 o2, Below w.heap.size w ((w.alloc o1).alloc o2) := fun o1 o2 => ((Below.refl _ _).alloc (Nat.le_refl _) o1).alloc (by simp) o2
  have CF : Hid _ := fun w' c0 c1 c2 ha' => l3Fault_any w.heap.size u z a n ca bs w' c0 c1 c2 ha' (by omega)
  have hlen := ha.len
  have HA : Hid (RdB w a n bs) := ha
  obtain ⟨F, hF⟩ : ∃ F, F = cacheFault u z bs := ⟨_, rfl⟩
  rw [← hF] at CF
  have HF : Hid _ := hF
  clear ha hF
  go_enter Try.func24, Try.ntmps24
  go_wp2_with fail
  refine Calls.mono (CF.out _ (by simp [go_sem]) (by simp [go_sem]) (by simp [go_sem]) (HA.out.below (B2 _ _))) ?_
  rintro e w2 ⟨rfl, hb2⟩
  have hb := (B2 _ _).trans (hb2.mono (by simp; omega))
  have q0 : w2.cell? ⟨w.heap.size, 0, none⟩ = some (.int .i64 u) := cell_later hb2 (by simp [go_sem])
  have q1 : w2.cell? ⟨w.heap.size, 1, none⟩ = some (.int .i64 z) := cell_later hb2 (by simp [go_sem])
  have q2 : w2.cell? ⟨w.heap.size, 2, none⟩ = some (.slice a n ca) := cell_later hb2 (by simp [go_sem])
  have rb : Blk w2 (w.heap.size + 1) #[.int .i64 0, .slice none 0 0, .int .i64 0, .int .i64 0, .slice none 0 0] 32 := by
    have hq := Blk.new (w.alloc (Obj.cells #[Value.int .i64 u, Value.int .i64 z, Value.slice a n ca] 26)) #[.int .i64 0, .slice none 0 0, .int .i64 0, .int .i64 0, .slice none 0 0] 32
    rw [World.size_alloc] at hq
    exact (hb2.block (w.heap.size + 1) (by simp)).trans hq
  have hz2 : w.heap.size + 1 < w2.heap.size := rb.lt
  clear hb2
  by_cases hF0 : F = 0
  case neg =>
    have hF0' : (F == 0) = false := by simpa using hF0
    obtain ⟨e1, e2, e3, e4⟩ := fg_fault (p := p) (show cacheFault u z bs ≠ 0 by rw [← HF.out]; exact hF0)
    rw [← HF.out] at e1
    have E : Hid _ := And.intro e1 (And.intro e2 (And.intro e3 e4))
    clear e1 e2 e3 e4
    go_wp2_with fail
    refine (l3Bad_res F _).mono ?_
    rintro e w3 ⟨rfl, hb3⟩
    have hb03 := hb.trans (hb3.mono hb.size)
    replace rb : Blk w3 (w.heap.size + 1) #[.int .i64 0, .slice none 0 0, .int .i64 0, .int .i64 0, .slice none 0 0] 32 := (hb3.block _ rb.lt).trans rb
    have d0 := rb.cell 0
    have d1 := rb.cell 1
    have d2 := rb.cell 2
    have d3 := rb.cell 3
    have d4 := rb.cell 4
    have f0 := rb.frozen 0
    have f1 := rb.frozen 1
    have f2 := rb.frozen 2
    have f3 := rb.frozen 3
    have f4 := rb.frozen 4
    simp at d0 d1 d2 d3 d4
    clear rb
    go_wp2
    refine bodyPost_ret (v := .agg #[.int .i64 F, .slice none 0 0, .int .i64 0, .int .i64 0, .slice none 0 0]) (by simp [results, Try.results24, go_sem, d0, d1, d2, d3, d4]) rfl ⟨.slice none 0 0, .slice none 0 0, by rw [E.out.1, E.out.2.1, E.out.2.2.1], RowI.nil _ _ _ _ _, by rw [E.out.2.2.2]; exact RowB.nil _ _ _ _ _, ?_⟩
    exact ((((hb03.setCell (by simp) _).setCell (by simp) _).setCell (by simp) _).setCell (by simp) _).setCell (by simp) _
  subst hF0
  by_cases hp : p < 0
  · obtain ⟨e1, e2, e3, e4⟩ := fg_range (p := p) HF.out.symm hp
    have E : Hid _ := And.intro e1 (And.intro e2 (And.intro e3 e4))
    clear e1 e2 e3 e4
    go_wp2_with fail
    refine (l3Bad_res 3 _).mono ?_
    rintro e w3 ⟨rfl, hb3⟩
    have hb03 := hb.trans (hb3.mono hb.size)
    replace rb : Blk w3 (w.heap.size + 1) #[.int .i64 0, .slice none 0 0, .int .i64 0, .int .i64 0, .slice none 0 0] 32 := (hb3.block _ rb.lt).trans rb
    have d0 := rb.cell 0
    have d1 := rb.cell 1
    have d2 := rb.cell 2
    have d3 := rb.cell 3
    have d4 := rb.cell 4
    have f0 := rb.frozen 0
    have f1 := rb.frozen 1
    have f2 := rb.frozen 2
    have f3 := rb.frozen 3
    have f4 := rb.frozen 4
    simp at d0 d1 d2 d3 d4
    clear rb
    go_wp2
    refine bodyPost_ret (v := .agg #[.int .i64 3, .slice none 0 0, .int .i64 0, .int .i64 0, .slice none 0 0]) (by simp [results, Try.results24, go_sem, d0, d1, d2, d3, d4]) rfl ⟨.slice none 0 0, .slice none 0 0, by rw [E.out.1, E.out.2.1, E.out.2.2.1], RowI.nil _ _ _ _ _, by rw [E.out.2.2.2]; exact RowB.nil _ _ _ _ _, ?_⟩
    exact ((((hb03.setCell (by simp) _).setCell (by simp) _).setCell (by simp) _).setCell (by simp) _).setCell (by simp) _
  · obtain ⟨e1, e2, e3, e4⟩ := fg_good (p := p) HF.out.symm hp
    have E : Hid _ := And.intro e1 (And.intro e2 (And.intro e3 e4))
    clear e1 e2 e3 e4
    have hok := okC_of HF.out.symm
    have hu1 := hok.u1
    have CS : Hid _ := fun w' ha' => l3Forget_any u z a n ca bs p w' ha' h1 (by omega)
    generalize hQ : (bs.filter fun b => decide (b.1 < wrap64 (p.tdiv u))) = Q at E CS
    clear hok hQ
    go_wp2_with fail
    refine Calls.mono (CS.out _ (HA.out.below hb)) ?_
    rintro e w3 ⟨v3, rfl, hr3, hb3⟩
    obtain ⟨a3, c3, hv3, -, -⟩ := hr3.shape
    subst hv3
    have hb03 := hb.trans (hb3.mono hb.size)
    have hlt := rb.lt
    replace rb : Blk w3 (w.heap.size + 1) #[.int .i64 0, .slice none 0 0, .int .i64 0, .int .i64 0, .slice none 0 0] 32 := (hb3.block _ rb.lt).trans rb
    have HR3 := hid hr3
    clear hr3 hb3 CS
    have d0 := rb.cell 0
    have d1 := rb.cell 1
    have d2 := rb.cell 2
    have d3 := rb.cell 3
    have d4 := rb.cell 4
    have f0 := rb.frozen 0
    have f1 := rb.frozen 1
    have f2 := rb.frozen 2
    have f3 := rb.frozen 3
    have f4 := rb.frozen 4
    simp at d0 d1 d2 d3 d4
    clear rb
    have hg5 : ∀ x0 x1 x2 x3 x4, w3.grownBy (((((w3.setCell ⟨w.heap.size + 1, 0, none⟩ x0).setCell ⟨w.heap.size + 1, 1, none⟩ x1).setCell ⟨w.heap.size + 1, 2, none⟩ x2).setCell ⟨w.heap.size + 1, 3, none⟩ x3).setCell ⟨w.heap.size + 1, 4, none⟩ x4) (some (w.heap.size + 1)) := fun x0 x1 x2 x3 x4 => grownT (grownT (grownT (grownT (set_grown _ _ _ _) (set_grown _ _ _ _)) (set_grown _ _ _ _)) (set_grown _ _ _ _)) (set_grown _ _ _ _)
    go_wp2
    refine bodyPost_ret (v := .agg #[.int .i64 0, .slice none 0 0, .int .i64 u, .int .i64 z, .slice a3 Q.length c3]) (by simp [results, Try.results24, go_sem, d0, d1, d2, d3, d4]) rfl ⟨.slice none 0 0, .slice a3 Q.length c3, by rw [E.out.1, E.out.2.1, E.out.2.2.1], RowI.nil _ _ _ _ _, ?_, ?_⟩
    · rw [E.out.2.2.2]
      have hq := RowB.chg HR3.out (Chg.one (hg5 (.int .i64 0) (.slice none 0 0) (.int .i64 u) (.int .i64 z) (.slice a3 Q.length c3))) (.inr (by omega))
      exact hq.mono (by omega) (by simp [World.setCell])
    · exact ((((hb03.setCell (by simp) _).setCell (by simp) _).setCell (by simp) _).setCell (by simp) _).setCell (by simp) _
end Go.Proofs.Ytogmgpnkaanjeaa
