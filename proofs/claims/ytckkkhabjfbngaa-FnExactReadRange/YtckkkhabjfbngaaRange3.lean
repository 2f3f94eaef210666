/-
  ReadRange, of the program.
-/
import Derived.Test.YtckkkhabjfbngaaRange1
namespace Go.Proofs.Ytckkkhabjfbngaa
open Go.RowKit Go.ChangeMaps Go.MapKept
set_option linter.unusedVariables false
set_option linter.unusedSimpArgs false

set_option maxHeartbeats 3200000 in
set_option maxRecDepth 20000 in
theorem implReadRange_any (u z : Int) (a : Option Addr) (l ca : Nat) (bs : List Bk) (p : Option Addr) (m cp : Nat) (xs : List Int) (at_ n M : Int) (w : World) (ha : RdB w a l bs) (hp : Rd .u8 w p m xs) (h1 : (l : Int) + byB bs ≤ 1048576) (hm : m ≤ 1048576) (hca : l ≤ ca) (hmc : m ≤ cp) (hcm : cp ≤ maxLen) :
    Calls Try.prog 20 #[.agg #[.int .i64 u, .int .i64 z, .slice a l ca], .agg #[.slice p m cp], .int .i64 at_, .int .i64 n, .int .i64 M] w fun e w' => ∃ vb va mid, e = .returned (.agg #[.int .i64 (rrCode u z bs xs at_ n M), vb, .int .i64 (rrU u z bs xs at_ n M), .int .i64 (rrZ u z bs xs at_ n M), va]) ∧ w.heap.size ≤ mid ∧ mid ≤ w'.heap.size ∧
      RowI .u8 5 w' w.heap.size mid vb (rrR u z bs xs at_ n M).length (rrR u z bs xs at_ n M) ∧ RowB 93 5 w' mid w'.heap.size va (rrS u z bs xs at_ n M).length (rrS u z bs xs at_ n M) ∧ Below w.heap.size w w' := by
  have B3 : ∀ o1 o2 o3, Below w.heap.size w (((w.alloc o1).alloc o2).alloc o3) := fun o1 o2 o3 => (((Below.refl _ _).alloc (Nat.le_refl _) o1).alloc (by simp) o2).alloc (by simp; omega) o3
  have hxl := hp.1
  have hle2 : w.heap.size ≤ w.heap.size + 1 + 1 := by omega
  have CF : Hid _ := fun w' ha' => readFault_any u z a l ca bs p m cp w' ha' (by omega) hca (by omega)
  have HA : Hid (RdB w a l bs) := ha
  have HP : Hid (Rd .u8 w p m xs) := hp
  have HCM := hid hcm
  obtain ⟨F, hF⟩ : ∃ F, F = asked u z bs m := ⟨_, rfl⟩
  rw [← hF] at CF
  rw [← hxl] at hF
  have HF : Hid (F = asked u z bs xs.length) := hF
  clear ha hF hca hp hcm
  go_enter Try.func20, Try.ntmps20
  go_wp2_with fail
  refine Calls.mono (CF.out _ (HA.out.below (B3 _ _ _))) ?_
  rintro e w2 ⟨rfl, hb2⟩
  have hb := (B3 _ _ _).trans (hb2.mono (by simp; omega))
  have q0 : w2.cell? ⟨w.heap.size, 0, none⟩ = some (.int .i64 u) := cell_later hb2 (by simp [go_sem])
  have q1 : w2.cell? ⟨w.heap.size, 1, none⟩ = some (.int .i64 z) := cell_later hb2 (by simp [go_sem])
  have q2 : w2.cell? ⟨w.heap.size, 2, none⟩ = some (.slice a l ca) := cell_later hb2 (by simp [go_sem])
  have qf : w2.cell? ⟨w.heap.size + 1, 0, none⟩ = some (.slice p m cp) := cell_later hb2 (by simp [go_sem])
  have rb : Blk w2 (w.heap.size + 2) #[.int .i64 0, .slice none 0 0, .int .i64 0, .int .i64 0, .slice none 0 0] 32 := by
    have hq := Blk.new ((w.alloc (Obj.cells #[Value.int .i64 u, Value.int .i64 z, Value.slice a l ca] 26)).alloc (Obj.cells #[Value.slice p m cp] 28)) #[.int .i64 0, .slice none 0 0, .int .i64 0, .int .i64 0, .slice none 0 0] 32
    rw [World.size_alloc, World.size_alloc] at hq
    exact (hb2.block (w.heap.size + 2) (by simp)).trans hq
  have hz2 : w.heap.size + 2 < w2.heap.size := rb.lt
  clear hb2
  by_cases hF0 : F = 0
  case neg =>
    have hF0' : (F == 0) = false := by simpa using hF0
    have E := hid (rr_bad (at_ := at_) (n := n) (M := M) (rr_asked (show asked u z bs xs.length ≠ 0 by rw [← HF.out]; exact hF0)) (by rw [← HF.out]; exact hF0))
    rw [← HF.out] at E
    have d0 := rb.cell 0
    have d1 := rb.cell 1
    have d2 := rb.cell 2
    have d3 := rb.cell 3
    have d4 := rb.cell 4
    have f0 := rb.frozen 0
    have f1 := rb.frozen 1
    have f2 := rb.frozen 2
    have f3 := rb.frozen 3
    have f4 := rb.frozen 4
    simp at d0 d1 d2 d3 d4
    clear rb
    go_wp2
    refine bodyPost_ret (v := .agg #[.int .i64 F, .slice none 0 0, .int .i64 0, .int .i64 0, .slice none 0 0]) (by simp [results, Try.results20, go_sem, d0, d1, d2, d3, d4]) rfl ⟨.slice none 0 0, .slice none 0 0, w.heap.size, by rw [E.out.1, E.out.2.1, E.out.2.2.1], Nat.le_refl _, ?_, by rw [E.out.2.2.2.1]; exact RowI.nil _ _ _ _ _, by rw [E.out.2.2.2.2]; exact RowB.nil _ _ _ _ _, ?_⟩
    · simpa using hb.size
    · exact ((((hb.setCell hle2 _).setCell hle2 _).setCell hle2 _).setCell hle2 _).setCell hle2 _
  subst hF0
  by_cases hbad : rrBad at_ n M
  · have E := hid (rr_bad (rr_range HF.out.symm hbad) (by omega))
    by_cases hn0 : at_ < 0
    · have hn0' : decide (at_ < 0) = true := decide_eq_true hn0
      have d0 := rb.cell 0
      have d1 := rb.cell 1
      have d2 := rb.cell 2
      have d3 := rb.cell 3
      have d4 := rb.cell 4
      have f0 := rb.frozen 0
      have f1 := rb.frozen 1
      have f2 := rb.frozen 2
      have f3 := rb.frozen 3
      have f4 := rb.frozen 4
      simp at d0 d1 d2 d3 d4
      clear rb
      go_wp2
      refine bodyPost_ret (v := .agg #[.int .i64 3, .slice none 0 0, .int .i64 0, .int .i64 0, .slice none 0 0]) (by simp [results, Try.results20, go_sem, d0, d1, d2, d3, d4]) rfl ⟨.slice none 0 0, .slice none 0 0, w.heap.size, by rw [E.out.1, E.out.2.1, E.out.2.2.1], Nat.le_refl _, ?_, by rw [E.out.2.2.2.1]; exact RowI.nil _ _ _ _ _, by rw [E.out.2.2.2.2]; exact RowB.nil _ _ _ _ _, ?_⟩
      · simpa using hb.size
      · exact ((((hb.setCell hle2 _).setCell hle2 _).setCell hle2 _).setCell hle2 _).setCell hle2 _
    by_cases hn4 : 400 < at_
    · have hn4' : decide (400 < at_) = true := decide_eq_true hn4
      have d0 := rb.cell 0
      have d1 := rb.cell 1
      have d2 := rb.cell 2
      have d3 := rb.cell 3
      have d4 := rb.cell 4
      have f0 := rb.frozen 0
      have f1 := rb.frozen 1
      have f2 := rb.frozen 2
      have f3 := rb.frozen 3
      have f4 := rb.frozen 4
      simp at d0 d1 d2 d3 d4
      clear rb
      go_wp2
      refine bodyPost_ret (v := .agg #[.int .i64 3, .slice none 0 0, .int .i64 0, .int .i64 0, .slice none 0 0]) (by simp [results, Try.results20, go_sem, d0, d1, d2, d3, d4]) rfl ⟨.slice none 0 0, .slice none 0 0, w.heap.size, by rw [E.out.1, E.out.2.1, E.out.2.2.1], Nat.le_refl _, ?_, by rw [E.out.2.2.2.1]; exact RowI.nil _ _ _ _ _, by rw [E.out.2.2.2.2]; exact RowB.nil _ _ _ _ _, ?_⟩
      · simpa using hb.size
      · exact ((((hb.setCell hle2 _).setCell hle2 _).setCell hle2 _).setCell hle2 _).setCell hle2 _
    by_cases hn5 : n < 0
    · have hn5' : decide (n < 0) = true := decide_eq_true hn5
      have d0 := rb.cell 0
      have d1 := rb.cell 1
      have d2 := rb.cell 2
      have d3 := rb.cell 3
      have d4 := rb.cell 4
      have f0 := rb.frozen 0
      have f1 := rb.frozen 1
      have f2 := rb.frozen 2
      have f3 := rb.frozen 3
      have f4 := rb.frozen 4
      simp at d0 d1 d2 d3 d4
      clear rb
      go_wp2
      refine bodyPost_ret (v := .agg #[.int .i64 3, .slice none 0 0, .int .i64 0, .int .i64 0, .slice none 0 0]) (by simp [results, Try.results20, go_sem, d0, d1, d2, d3, d4]) rfl ⟨.slice none 0 0, .slice none 0 0, w.heap.size, by rw [E.out.1, E.out.2.1, E.out.2.2.1], Nat.le_refl _, ?_, by rw [E.out.2.2.2.1]; exact RowI.nil _ _ _ _ _, by rw [E.out.2.2.2.2]; exact RowB.nil _ _ _ _ _, ?_⟩
      · simpa using hb.size
      · exact ((((hb.setCell hle2 _).setCell hle2 _).setCell hle2 _).setCell hle2 _).setCell hle2 _
    by_cases hn6 : 400 < n
    · have hn6' : decide (400 < n) = true := decide_eq_true hn6
      have d0 := rb.cell 0
      have d1 := rb.cell 1
      have d2 := rb.cell 2
      have d3 := rb.cell 3
      have d4 := rb.cell 4
      have f0 := rb.frozen 0
      have f1 := rb.frozen 1
      have f2 := rb.frozen 2
      have f3 := rb.frozen 3
      have f4 := rb.frozen 4
      simp at d0 d1 d2 d3 d4
      clear rb
      go_wp2
      refine bodyPost_ret (v := .agg #[.int .i64 3, .slice none 0 0, .int .i64 0, .int .i64 0, .slice none 0 0]) (by simp [results, Try.results20, go_sem, d0, d1, d2, d3, d4]) rfl ⟨.slice none 0 0, .slice none 0 0, w.heap.size, by rw [E.out.1, E.out.2.1, E.out.2.2.1], Nat.le_refl _, ?_, by rw [E.out.2.2.2.1]; exact RowI.nil _ _ _ _ _, by rw [E.out.2.2.2.2]; exact RowB.nil _ _ _ _ _, ?_⟩
      · simpa using hb.size
      · exact ((((hb.setCell hle2 _).setCell hle2 _).setCell hle2 _).setCell hle2 _).setCell hle2 _
    have CM : Hid _ := fun w' => isMost_is M false w' (by unfold rrBad at hbad; simp; omega)
    clear hbad
    have d0 := rb.cell 0
    have d1 := rb.cell 1
    have d2 := rb.cell 2
    have d3 := rb.cell 3
    have d4 := rb.cell 4
    have f0 := rb.frozen 0
    have f1 := rb.frozen 1
    have f2 := rb.frozen 2
    have f3 := rb.frozen 3
    have f4 := rb.frozen 4
    simp at d0 d1 d2 d3 d4
    clear rb
    go_wp2_with (go_at_call 48; refine (CM.out _).mono ?_; rintro e w9 ⟨rfl, rfl⟩)
    refine bodyPost_ret (v := .agg #[.int .i64 3, .slice none 0 0, .int .i64 0, .int .i64 0, .slice none 0 0]) (by simp [results, Try.results20, go_sem, d0, d1, d2, d3, d4]) rfl ⟨.slice none 0 0, .slice none 0 0, w.heap.size, by rw [E.out.1, E.out.2.1, E.out.2.2.1], Nat.le_refl _, ?_, by rw [E.out.2.2.2.1]; exact RowI.nil _ _ _ _ _, by rw [E.out.2.2.2.2]; exact RowB.nil _ _ _ _ _, ?_⟩
    · simpa using hb.size
    · exact ((((hb.setCell hle2 _).setCell hle2 _).setCell hle2 _).setCell hle2 _).setCell hle2 _
  have EE := hid (rr_good HF.out.symm hbad)
  obtain ⟨hok, hx4⟩ := asked_ok HF.out.symm
  unfold rrBad at hbad
  have CM : Hid _ := fun w' => isMost_is M true w' (by simp; omega)
  have hn0 : ¬ at_ < 0 := by omega
  have hn4 : ¬ 400 < at_ := by omega
  have hn5 : ¬ n < 0 := by omega
  have hn6 : ¬ 400 < n := by omega
  obtain ⟨P0, rfl⟩ : ∃ N : Nat, at_ = (N : Int) := ⟨at_.toNat, by omega⟩
  obtain ⟨nn, rfl⟩ : ∃ N : Nat, n = (N : Int) := ⟨n.toNat, by omega⟩
  obtain ⟨MM, rfl⟩ : ∃ MM : Nat, M = (MM : Int) := ⟨M.toNat, by omega⟩
  obtain ⟨U, rfl⟩ : ∃ U : Nat, u = (U : Int) := ⟨u.toNat, by have := hok.u1; omega⟩
  have hu1 := hok.u1
  have hl6 : bs.length ≤ 6 := by have := hok.len; have := hok.z2; omega
  have hnl : bs.length = l := HA.out.len
  obtain ⟨R1, R2, hR⟩ : ∃ R1 R2, rg U z xs (P0 + nn) (nn + 1) P0 bs = (R1, R2) := ⟨_, _, rfl⟩
  have hRl := rg_len (E := P0 + nn) (by omega) (nn + 1) P0 bs hok hx4
  rw [hR] at hRl
  simp only at hRl
  have hby := okC_byB hRl.2
  have hq6 : R2.length ≤ 6 := by have := hRl.2.len; have := hRl.2.z2; omega
  unfold rgOf at EE
  simp only [Int.toNat_natCast] at EE
  rw [hR] at EE
  simp only at EE
  have CS : Hid _ := fun w' ha' => shelfOf_any U z a l ca bs w' ha' hok (by omega)
  have CT : Hid _ := fun bm T E w' (hs : Shelf bm U z T w' E bs) (hr : Rd .u8 w' p m xs) hpa (hT : T ≤ 1000) => read_any bm U z T E bs P0 nn MM p m cp xs w' hs hok hr hpa (by omega) hmc HCM.out (by omega) (by omega) (by omega) (by omega) hT R1 R2 hR
  have hplt : ∀ ad, p = some ad → m = 0 ∨ ad.block < w.heap.size := fun ad had => by
    rcases HP.out.2 with h0 | ⟨b, off, hb0, hcc⟩
    · exact .inl h0
    · by_cases hm0 : m = 0
      · exact .inl hm0
      · rw [had] at hb0
        have := block_lt_of_cell (hcc 0 (by omega))
        simp only [Option.some.injEq] at hb0
        rw [hb0]
        exact .inr this
  clear hok hR
  go_wp2_with fail
  refine (CM.out _).mono ?_
  rintro e w9 ⟨rfl, rfl⟩
  go_wp2_with fail
  refine Calls.mono (CS.out _ (HA.out.below hb)) ?_
  rintro e w3 ⟨E, rfl, hs3, hb3⟩
  have hb03 := hb.trans (hb3.mono hb.size)
  have rb3 : Blk w3 (w.heap.size + 2) #[.int .i64 0, .slice none 0 0, .int .i64 0, .int .i64 0, .slice none 0 0] 32 := (hb3.block _ hz2).trans rb
  replace qf := cell_later hb3 qf
  have hz3 := hs3.blk.lt
  have hbz := hb3.size
  have CT3 := hid (CT.out _ _ _ w3 hs3 (HP.out.below hb03) (fun ad had => by rcases hplt ad had with q | q; exact .inl q; exact .inr (.inl (by omega))) (by omega))
  clear rb q0 q1 q2 hs3 hb3 CT CS CF
  go_wp2_with fail
  refine Calls.mono CT3.out ?_
  rintro e w5 ⟨v5, rfl, hr5, ⟨E4, T4, hs5⟩, hC4⟩
  obtain ⟨a5, c5, hv5, -, -⟩ := hr5.shape
  subst hv5
  have hb05 : Below w.heap.size w w5 := below_chg hb03 hC4 (by omega) (by omega)
  have rb5 : Blk w5 (w.heap.size + 2) #[.int .i64 0, .slice none 0 0, .int .i64 0, .int .i64 0, .slice none 0 0] 32 := (hC4.block _ rb3.lt (by omega)).trans rb3
  have hz5 := hC4.size
  have hE4 := hs5.hold.1
  have CK := hid (cache_any _ U z T4 E4 R2 w5 hs5 (by omega) (by omega))
  clear CT3 hC4 rb3 hs5
  go_wp2_with fail
  refine Calls.mono CK.out ?_
  rintro e w6 ⟨v6, rfl, hr6, hb6⟩
  obtain ⟨a6, c6, hv6, -, -⟩ := hr6.shape
  subst hv6
  have hb06 := hb05.trans (hb6.mono hb05.size)
  have hr56 := hr5.below hb6
  have rb : Blk w6 (w.heap.size + 2) #[.int .i64 0, .slice none 0 0, .int .i64 0, .int .i64 0, .slice none 0 0] 32 := (hb6.block _ rb5.lt).trans rb5
  have hz6 := hb6.size
  have d0 := rb.cell 0
  have d1 := rb.cell 1
  have d2 := rb.cell 2
  have d3 := rb.cell 3
  have d4 := rb.cell 4
  have f0 := rb.frozen 0
  have f1 := rb.frozen 1
  have f2 := rb.frozen 2
  have f3 := rb.frozen 3
  have f4 := rb.frozen 4
  simp at d0 d1 d2 d3 d4
  have HR5 := hid hr56
  have HR6 := hid hr6
  have hg5 : ∀ x0 x1 x2 x3 x4, w6.grownBy (((((w6.setCell ⟨w.heap.size + 2, 0, none⟩ x0).setCell ⟨w.heap.size + 2, 1, none⟩ x1).setCell ⟨w.heap.size + 2, 2, none⟩ x2).setCell ⟨w.heap.size + 2, 3, none⟩ x3).setCell ⟨w.heap.size + 2, 4, none⟩ x4) (some (w.heap.size + 2)) := fun x0 x1 x2 x3 x4 => grownT (grownT (grownT (grownT (set_grown _ _ _ _) (set_grown _ _ _ _)) (set_grown _ _ _ _)) (set_grown _ _ _ _)) (set_grown _ _ _ _)
  clear hr5 hr56 hr6 rb rb5 CK hb6
  go_wp2
  refine bodyPost_ret (v := .agg #[.int .i64 0, .slice a5 R1.length c5, .int .i64 U, .int .i64 z, .slice a6 R2.length c6]) (by simp [results, Try.results20, go_sem, d0, d1, d2, d3, d4]) rfl ⟨.slice a5 R1.length c5, .slice a6 R2.length c6, w5.heap.size, by rw [EE.out.1, EE.out.2.1, EE.out.2.2.1], by omega, ?_, ?_, ?_, ?_⟩
  · simpa [World.setCell] using hz6
  · rw [EE.out.2.2.2.1]
    exact (RowI.chg HR5.out (Chg.one (hg5 (.int .i64 0) (.slice a5 R1.length c5) (.int .i64 U) (.int .i64 z) (.slice a6 R2.length c6))) (.inr (by omega))).mono (by omega) (Nat.le_refl _)
  · rw [EE.out.2.2.2.2]
    exact (RowB.chg HR6.out (Chg.one (hg5 (.int .i64 0) (.slice a5 R1.length c5) (.int .i64 U) (.int .i64 z) (.slice a6 R2.length c6))) (.inr (by omega))).mono (Nat.le_refl _) (by simp [World.setCell])
  · exact ((((hb06.setCell hle2 _).setCell hle2 _).setCell hle2 _).setCell hle2 _).setCell hle2 _
end Go.Proofs.Ytckkkhabjfbngaa
