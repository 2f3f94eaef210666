/-
  FetchBlock, of the program.
-/
import Derived.Test.YtckkkhabjfbngaaFetch1
namespace Go.Proofs.Ytckkkhabjfbngaa
open Go.RowKit Go.ChangeMaps Go.MapKept
set_option linter.unusedVariables false
set_option linter.unusedSimpArgs false

set_option maxHeartbeats 3200000 in
set_option maxRecDepth 20000 in
theorem implFetchBlock_any (u z : Int) (a : Option Addr) (n ca : Nat) (bs : List Bk) (p : Option Addr) (m cp : Nat) (xs : List Int) (num M : Int) (w : World) (ha : RdB w a n bs) (hp : Rd .u8 w p m xs) (h1 : (n : Int) + byB bs ≤ 1048576) (hm : m ≤ 1048576) (hca : n ≤ ca) (hmc : m ≤ cp) (hcm : cp ≤ maxLen) :
    Calls Try.prog 13 #[.agg #[.int .i64 u, .int .i64 z, .slice a n ca], .agg #[.slice p m cp], .int .i64 num, .int .i64 M] w fun e w' => ∃ vb va mid, e = .returned (.agg #[.int .i64 (ftCode u z bs xs num M), vb, .int .i64 (ftU u z bs xs num M), .int .i64 (ftZ u z bs xs num M), va]) ∧ w.heap.size ≤ mid ∧ mid ≤ w'.heap.size ∧
      RowI .u8 5 w' w.heap.size mid vb (ftR u z bs xs num M).length (ftR u z bs xs num M) ∧ RowB 93 5 w' mid w'.heap.size va (ftS u z bs xs num M).length (ftS u z bs xs num M) ∧ Below w.heap.size w w' := by
  have B3 : ∀ o1 o2 o3, Below w.heap.size w (((w.alloc o1).alloc o2).alloc o3) := fun o1 o2 o3 => (((Below.refl _ _).alloc (Nat.le_refl _) o1).alloc (by simp) o2).alloc (by simp; omega) o3
  have hxl := hp.1
  have hle2 : w.heap.size ≤ w.heap.size + 1 + 1 := by omega
  have CF : Hid _ := fun w' ha' => readFault_any u z a n ca bs p m cp w' ha' (by omega) hca (by omega)
  have HA : Hid (RdB w a n bs) := ha
  have HP : Hid (Rd .u8 w p m xs) := hp
  have HCM := hid hcm
  obtain ⟨F, hF⟩ : ∃ F, F = asked u z bs m := ⟨_, rfl⟩
  rw [← hF] at CF
  rw [← hxl] at hF
  have HF : Hid (F = asked u z bs xs.length) := hF
  clear ha hF hca hp hcm
  go_enter Try.func13, Try.ntmps13
  go_wp2_with fail
  refine Calls.mono (CF.out _ (HA.out.below (B3 _ _ _))) ?_
  rintro e w2 ⟨rfl, hb2⟩
  have hb := (B3 _ _ _).trans (hb2.mono (by simp; omega))
  have q0 : w2.cell? ⟨w.heap.size, 0, none⟩ = some (.int .i64 u) := cell_later hb2 (by simp [go_sem])
  have q1 : w2.cell? ⟨w.heap.size, 1, none⟩ = some (.int .i64 z) := cell_later hb2 (by simp [go_sem])
  have q2 : w2.cell? ⟨w.heap.size, 2, none⟩ = some (.slice a n ca) := cell_later hb2 (by simp [go_sem])
  have qf : w2.cell? ⟨w.heap.size + 1, 0, none⟩ = some (.slice p m cp) := cell_later hb2 (by simp [go_sem])
  have rb : Blk w2 (w.heap.size + 2) #[.int .i64 0, .slice none 0 0, .int .i64 0, .int .i64 0, .slice none 0 0] 32 := by
    have hq := Blk.new ((w.alloc (Obj.cells #[Value.int .i64 u, Value.int .i64 z, Value.slice a n ca] 26)).alloc (Obj.cells #[Value.slice p m cp] 28)) #[.int .i64 0, .slice none 0 0, .int .i64 0, .int .i64 0, .slice none 0 0] 32
    rw [World.size_alloc, World.size_alloc] at hq
    exact (hb2.block (w.heap.size + 2) (by simp)).trans hq
  have hz2 : w.heap.size + 2 < w2.heap.size := rb.lt
  clear hb2
  by_cases hF0 : F = 0
  case neg =>
    have hF0' : (F == 0) = false := by simpa using hF0
    have E := hid (ft_bad (num := num) (M := M) (ft_asked (show asked u z bs xs.length ≠ 0 by rw [← HF.out]; exact hF0)) (by rw [← HF.out]; exact hF0))
    rw [← HF.out] at E
    have d0 := rb.cell 0
    have d1 := rb.cell 1
    have d2 := rb.cell 2
    have d3 := rb.cell 3
    have d4 := rb.cell 4
    have f0 := rb.frozen 0
    have f1 := rb.frozen 1
    have f2 := rb.frozen 2
    have f3 := rb.frozen 3
    have f4 := rb.frozen 4
    simp at d0 d1 d2 d3 d4
    clear rb
    go_wp2
    refine bodyPost_ret (v := .agg #[.int .i64 F, .slice none 0 0, .int .i64 0, .int .i64 0, .slice none 0 0]) (by simp [results, Try.results13, go_sem, d0, d1, d2, d3, d4]) rfl ⟨.slice none 0 0, .slice none 0 0, w.heap.size, by rw [E.out.1, E.out.2.1, E.out.2.2.1], Nat.le_refl _, ?_, by rw [E.out.2.2.2.1]; exact RowI.nil _ _ _ _ _, by rw [E.out.2.2.2.2]; exact RowB.nil _ _ _ _ _, ?_⟩
    · simpa using hb.size
    · exact ((((hb.setCell hle2 _).setCell hle2 _).setCell hle2 _).setCell hle2 _).setCell hle2 _
  subst hF0
  by_cases hbad : ftBad num M
  · have E := hid (ft_bad (ft_range HF.out.symm hbad) (by omega))
    by_cases hn0 : num < 0
    · have hn0' : decide (num < 0) = true := decide_eq_true hn0
      have d0 := rb.cell 0
      have d1 := rb.cell 1
      have d2 := rb.cell 2
      have d3 := rb.cell 3
      have d4 := rb.cell 4
      have f0 := rb.frozen 0
      have f1 := rb.frozen 1
      have f2 := rb.frozen 2
      have f3 := rb.frozen 3
      have f4 := rb.frozen 4
      simp at d0 d1 d2 d3 d4
      clear rb
      go_wp2
      refine bodyPost_ret (v := .agg #[.int .i64 3, .slice none 0 0, .int .i64 0, .int .i64 0, .slice none 0 0]) (by simp [results, Try.results13, go_sem, d0, d1, d2, d3, d4]) rfl ⟨.slice none 0 0, .slice none 0 0, w.heap.size, by rw [E.out.1, E.out.2.1, E.out.2.2.1], Nat.le_refl _, ?_, by rw [E.out.2.2.2.1]; exact RowI.nil _ _ _ _ _, by rw [E.out.2.2.2.2]; exact RowB.nil _ _ _ _ _, ?_⟩
      · simpa using hb.size
      · exact ((((hb.setCell hle2 _).setCell hle2 _).setCell hle2 _).setCell hle2 _).setCell hle2 _
    by_cases hn4 : 400 < num
    · have hn4' : decide (400 < num) = true := decide_eq_true hn4
      have d0 := rb.cell 0
      have d1 := rb.cell 1
      have d2 := rb.cell 2
      have d3 := rb.cell 3
      have d4 := rb.cell 4
      have f0 := rb.frozen 0
      have f1 := rb.frozen 1
      have f2 := rb.frozen 2
      have f3 := rb.frozen 3
      have f4 := rb.frozen 4
      simp at d0 d1 d2 d3 d4
      clear rb
      go_wp2
      refine bodyPost_ret (v := .agg #[.int .i64 3, .slice none 0 0, .int .i64 0, .int .i64 0, .slice none 0 0]) (by simp [results, Try.results13, go_sem, d0, d1, d2, d3, d4]) rfl ⟨.slice none 0 0, .slice none 0 0, w.heap.size, by rw [E.out.1, E.out.2.1, E.out.2.2.1], Nat.le_refl _, ?_, by rw [E.out.2.2.2.1]; exact RowI.nil _ _ _ _ _, by rw [E.out.2.2.2.2]; exact RowB.nil _ _ _ _ _, ?_⟩
      · simpa using hb.size
      · exact ((((hb.setCell hle2 _).setCell hle2 _).setCell hle2 _).setCell hle2 _).setCell hle2 _
    have CM : Hid _ := fun w' => isMost_is M false w' (by unfold ftBad at hbad; simp; omega)
    clear hbad
    have d0 := rb.cell 0
    have d1 := rb.cell 1
    have d2 := rb.cell 2
    have d3 := rb.cell 3
    have d4 := rb.cell 4
    have f0 := rb.frozen 0
    have f1 := rb.frozen 1
    have f2 := rb.frozen 2
    have f3 := rb.frozen 3
    have f4 := rb.frozen 4
    simp at d0 d1 d2 d3 d4
    clear rb
    go_wp2_with (go_at_call 48; refine (CM.out _).mono ?_; rintro e w9 ⟨rfl, rfl⟩)
    refine bodyPost_ret (v := .agg #[.int .i64 3, .slice none 0 0, .int .i64 0, .int .i64 0, .slice none 0 0]) (by simp [results, Try.results13, go_sem, d0, d1, d2, d3, d4]) rfl ⟨.slice none 0 0, .slice none 0 0, w.heap.size, by rw [E.out.1, E.out.2.1, E.out.2.2.1], Nat.le_refl _, ?_, by rw [E.out.2.2.2.1]; exact RowI.nil _ _ _ _ _, by rw [E.out.2.2.2.2]; exact RowB.nil _ _ _ _ _, ?_⟩
    · simpa using hb.size
    · exact ((((hb.setCell hle2 _).setCell hle2 _).setCell hle2 _).setCell hle2 _).setCell hle2 _
  have EE := hid (ft_good HF.out.symm hbad)
  obtain ⟨hok, hx4⟩ := asked_ok HF.out.symm
  unfold ftBad at hbad
  have CM : Hid _ := fun w' => isMost_is M true w' (by simp; omega)
  have hn0 : ¬ num < 0 := by omega
  have hn4 : ¬ 400 < num := by omega
  obtain ⟨N, rfl⟩ : ∃ N : Nat, num = (N : Int) := ⟨num.toNat, by omega⟩
  obtain ⟨MM, rfl⟩ : ∃ MM : Nat, M = (MM : Int) := ⟨M.toNat, by omega⟩
  obtain ⟨U, rfl⟩ : ∃ U : Nat, u = (U : Int) := ⟨u.toNat, by have := hok.u1; omega⟩
  rw [Int.toNat_natCast, Int.toNat_natCast] at EE
  have hby := okC_byB hok
  have hu1 := hok.u1
  have hu2 := hok.u2
  have hl6 : bs.length ≤ 6 := by have := hok.len; have := hok.z2; omega
  have hnl : bs.length = n := HA.out.len
  have hYl := ftB_len hok xs N
  have hQb := ftQ_bd z bs N (ftB U bs xs N)
  have CS : Hid _ := fun w' ha' => shelfOf_any U z a n ca bs w' ha' hok (by omega)
  have CT : Hid _ := fun bm T E w' (hs : Shelf bm U z T w' E bs) (hr : Rd .u8 w' p m xs) (hT : T < 100000) => fetch_any bm U z T E bs N MM p m cp xs w' hs hok hr (by omega) hmc HCM.out (by omega) (by omega) (by omega) hT
  generalize hYe : ftB U bs xs N = Y at EE CT hYl hQb
  generalize hQe : ftQ z bs N Y = Q at EE CT hQb
  clear hok hYe hQe
  go_wp2_with fail
  refine (CM.out _).mono ?_
  rintro e w9 ⟨rfl, rfl⟩
  go_wp2_with fail
  refine Calls.mono (CS.out _ (HA.out.below hb)) ?_
  rintro e w3 ⟨E, rfl, hs3, hb3⟩
  have hb03 := hb.trans (hb3.mono hb.size)
  have rb3 : Blk w3 (w.heap.size + 2) #[.int .i64 0, .slice none 0 0, .int .i64 0, .int .i64 0, .slice none 0 0] 32 := (hb3.block _ hz2).trans rb
  replace qf := cell_later hb3 qf
  have hz3 := hs3.blk.lt
  have hbz := hb3.size
  have CT3 := hid (CT.out _ _ _ w3 hs3 (HP.out.below hb03) (by omega))
  clear rb q0 q1 q2 hs3 hb3 CT CS CF
  go_wp2_with fail
  refine Calls.mono CT3.out ?_
  rintro e w4 ⟨ya, yc, E4, T4, rfl, hr4, hyc, hym, hs4, hT4, hC4, -⟩
  have hb04 : Below w.heap.size w w4 := below_chg hb03 hC4 (by omega) (by omega)
  have rb4 : Blk w4 (w.heap.size + 2) #[.int .i64 0, .slice none 0 0, .int .i64 0, .int .i64 0, .slice none 0 0] 32 := (hC4.block _ rb3.lt (by omega)).trans rb3
  have hz4 := hC4.size
  have CC := hid (copied_any ya Y.length yc Y w4 hr4 (by omega))
  clear CT3 hC4 rb3 hr4 hym hyc
  go_wp2_with fail
  refine Calls.mono CC.out ?_
  rintro e w5 ⟨v5, rfl, hr5, hb5⟩
  obtain ⟨a5, c5, hv5, -, -⟩ := hr5.shape
  subst hv5
  have hs5 := hs4.below hb5
  have hE4 := hs5.hold.1
  have hb05 := hb04.trans (hb5.mono hb04.size)
  have rb5 : Blk w5 (w.heap.size + 2) #[.int .i64 0, .slice none 0 0, .int .i64 0, .int .i64 0, .slice none 0 0] 32 := (hb5.block _ rb4.lt).trans rb4
  have hz5 := hb5.size
  have CK := hid (cache_any _ U z T4 E4 Q w5 hs5 (by omega) (by omega))
  clear CC hs4 hs5 hb5 rb4
  go_wp2_with fail
  refine Calls.mono CK.out ?_
  rintro e w6 ⟨v6, rfl, hr6, hb6⟩
  obtain ⟨a6, c6, hv6, -, -⟩ := hr6.shape
  subst hv6
  have hb06 := hb05.trans (hb6.mono hb05.size)
  have hr56 := hr5.below hb6
  have rb : Blk w6 (w.heap.size + 2) #[.int .i64 0, .slice none 0 0, .int .i64 0, .int .i64 0, .slice none 0 0] 32 := (hb6.block _ rb5.lt).trans rb5
  have hz6 := hb6.size
  have d0 := rb.cell 0
  have d1 := rb.cell 1
  have d2 := rb.cell 2
  have d3 := rb.cell 3
  have d4 := rb.cell 4
  have f0 := rb.frozen 0
  have f1 := rb.frozen 1
  have f2 := rb.frozen 2
  have f3 := rb.frozen 3
  have f4 := rb.frozen 4
  simp at d0 d1 d2 d3 d4
  have HR5 := hid hr56
  have HR6 := hid hr6
  have hg5 : ∀ x0 x1 x2 x3 x4, w6.grownBy (((((w6.setCell ⟨w.heap.size + 2, 0, none⟩ x0).setCell ⟨w.heap.size + 2, 1, none⟩ x1).setCell ⟨w.heap.size + 2, 2, none⟩ x2).setCell ⟨w.heap.size + 2, 3, none⟩ x3).setCell ⟨w.heap.size + 2, 4, none⟩ x4) (some (w.heap.size + 2)) := fun x0 x1 x2 x3 x4 => grownT (grownT (grownT (grownT (set_grown _ _ _ _) (set_grown _ _ _ _)) (set_grown _ _ _ _)) (set_grown _ _ _ _)) (set_grown _ _ _ _)
  clear hr5 hr56 hr6 rb rb5 CK hb6
  go_wp2
  refine bodyPost_ret (v := .agg #[.int .i64 0, .slice a5 Y.length c5, .int .i64 U, .int .i64 z, .slice a6 Q.length c6]) (by simp [results, Try.results13, go_sem, d0, d1, d2, d3, d4]) rfl ⟨.slice a5 Y.length c5, .slice a6 Q.length c6, w5.heap.size, by rw [EE.out.1, EE.out.2.1, EE.out.2.2.1], by omega, ?_, ?_, ?_, ?_⟩
  · simpa [World.setCell] using hz6
  · rw [EE.out.2.2.2.1]
    exact (RowI.chg HR5.out (Chg.one (hg5 (.int .i64 0) (.slice a5 Y.length c5) (.int .i64 U) (.int .i64 z) (.slice a6 Q.length c6))) (.inr (by omega))).mono (by omega) (Nat.le_refl _)
  · rw [EE.out.2.2.2.2]
    exact (RowB.chg HR6.out (Chg.one (hg5 (.int .i64 0) (.slice a5 Y.length c5) (.int .i64 U) (.int .i64 z) (.slice a6 Q.length c6))) (.inr (by omega))).mono (Nat.le_refl _) (by simp [World.setCell])
  · exact ((((hb06.setCell hle2 _).setCell hle2 _).setCell hle2 _).setCell hle2 _).setCell hle2 _
end Go.Proofs.Ytckkkhabjfbngaa
