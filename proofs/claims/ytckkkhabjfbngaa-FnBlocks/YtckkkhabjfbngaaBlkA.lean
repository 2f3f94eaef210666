/-
  Fetch2, Fetch6, BlocksM, BlocksN in one text.
-/
import Derived.Test.YtckkkhabjfbngaaFetch1
import Derived.Test.YtckkkhabjfbngaaFetch3
import Derived.Test.YtckkkhabjfbngaaCache3
import Derived.Test.YtckkkhabjfbngaaCache4
import Derived.Test.YtckkkhabjfbngaaDrawsB
namespace Go.Proofs.Ytckkkhabjfbngaa
open Go.RowKit Go.ChangeMaps Go.MapKept
set_option linter.unusedVariables false
set_option linter.unusedSimpArgs false

set_option maxHeartbeats 3200000 in
set_option maxRecDepth 20000 in
theorem implFetchBlock_any (u z : Int) (a : Option Addr) (n ca : Nat) (bs : List Bk) (p : Option Addr) (m cp : Nat) (xs : List Int) (num M : Int) (w : World) (ha : RdB w a n bs) (hp : Rd .u8 w p m xs) (h1 : (n : Int) + byB bs ≤ 1048576) (hm : m ≤ 1048576) (hca : n ≤ ca) (hmc : m ≤ cp) (hcm : cp ≤ maxLen) :
    Calls Try.prog 13 #[.agg #[.int .i64 u, .int .i64 z, .slice a n ca], .agg #[.slice p m cp], .int .i64 num, .int .i64 M] w fun e w' => ∃ vb va mid, e = .returned (.agg #[.int .i64 (ftCode u z bs xs num M), vb, .int .i64 (ftU u z bs xs num M), .int .i64 (ftZ u z bs xs num M), va]) ∧ w.heap.size ≤ mid ∧ mid ≤ w'.heap.size ∧
      RowI .u8 5 w' w.heap.size mid vb (ftR u z bs xs num M).length (ftR u z bs xs num M) ∧ RowB 93 5 w' mid w'.heap.size va (ftS u z bs xs num M).length (ftS u z bs xs num M) ∧ Below w.heap.size w w' := by
  have B3 : ∀ o1 o2 o3, Below w.heap.size w (((w.alloc o1).alloc o2).alloc o3) := fun o1 o2 o3 => (((Below.refl _ _).alloc (Nat.le_refl _) o1).alloc (by simp) o2).alloc (by simp; omega) o3
  have hxl := hp.1
  have hle2 : w.heap.size ≤ w.heap.size + 1 + 1 := by omega
  have CF : Hid _ := fun w' ha' => readFault_any u z a n ca bs p m cp w' ha' (by omega) hca (by omega)
  have HA : Hid (RdB w a n bs) := ha
  have HP : Hid (Rd .u8 w p m xs) := hp
  have HCM := hid hcm
  obtain ⟨F, hF⟩ : ∃ F, F = asked u z bs m := ⟨_, rfl⟩
  rw [← hF] at CF
  rw [← hxl] at hF
  have HF : Hid (F = asked u z bs xs.length) := hF
  clear ha hF hca hp hcm
  go_enter Try.func13, Try.ntmps13
  go_wp2_with fail
  refine Calls.mono (CF.out _ (HA.out.below (B3 _ _ _))) ?_
  rintro e w2 ⟨rfl, hb2⟩
  have hb := (B3 _ _ _).trans (hb2.mono (by simp; omega))
  have q0 : w2.cell? ⟨w.heap.size, 0, none⟩ = some (.int .i64 u) := cell_later hb2 (by simp [go_sem])
  have q1 : w2.cell? ⟨w.heap.size, 1, none⟩ = some (.int .i64 z) := cell_later hb2 (by simp [go_sem])
  have q2 : w2.cell? ⟨w.heap.size, 2, none⟩ = some (.slice a n ca) := cell_later hb2 (by simp [go_sem])
  have qf : w2.cell? ⟨w.heap.size + 1, 0, none⟩ = some (.slice p m cp) := cell_later hb2 (by simp [go_sem])
  have rb : Blk w2 (w.heap.size + 2) #[.int .i64 0, .slice none 0 0, .int .i64 0, .int .i64 0, .slice none 0 0] 32 := by
    have hq := Blk.new ((w.alloc (Obj.cells #[Value.int .i64 u, Value.int .i64 z, Value.slice a n ca] 26)).alloc (Obj.cells #[Value.slice p m cp] 28)) #[.int .i64 0, .slice none 0 0, .int .i64 0, .int .i64 0, .slice none 0 0] 32
    rw [World.size_alloc, World.size_alloc] at hq
    exact (hb2.block (w.heap.size + 2) (by simp)).trans hq
  have hz2 : w.heap.size + 2 < w2.heap.size := rb.lt
  clear hb2
  by_cases hF0 : F = 0
  case neg =>
    have hF0' : (F == 0) = false := by simpa using hF0
    have E := hid (ft_bad (num := num) (M := M) (ft_asked (show asked u z bs xs.length ≠ 0 by rw [← HF.out]; exact hF0)) (by rw [← HF.out]; exact hF0))
    rw [← HF.out] at E
    have d0 := rb.cell 0
    have d1 := rb.cell 1
    have d2 := rb.cell 2
    have d3 := rb.cell 3
    have d4 := rb.cell 4
    have f0 := rb.frozen 0
    have f1 := rb.frozen 1
    have f2 := rb.frozen 2
    have f3 := rb.frozen 3
    have f4 := rb.frozen 4
    simp at d0 d1 d2 d3 d4
    clear rb
    go_wp2
    refine bodyPost_ret (v := .agg #[.int .i64 F, .slice none 0 0, .int .i64 0, .int .i64 0, .slice none 0 0]) (by simp [results, Try.results13, go_sem, d0, d1, d2, d3, d4]) rfl ⟨.slice none 0 0, .slice none 0 0, w.heap.size, by rw [E.out.1, E.out.2.1, E.out.2.2.1], Nat.le_refl _, ?_, by rw [E.out.2.2.2.1]; exact RowI.nil _ _ _ _ _, by rw [E.out.2.2.2.2]; exact RowB.nil _ _ _ _ _, ?_⟩
    · simpa using hb.size
    · exact ((((hb.setCell hle2 _).setCell hle2 _).setCell hle2 _).setCell hle2 _).setCell hle2 _
  subst hF0
  by_cases hbad : ftBad num M
  · have E := hid (ft_bad (ft_range HF.out.symm hbad) (by omega))
    by_cases hn0 : num < 0
    · have hn0' : decide (num < 0) = true := decide_eq_true hn0
      have d0 := rb.cell 0
      have d1 := rb.cell 1
      have d2 := rb.cell 2
      have d3 := rb.cell 3
      have d4 := rb.cell 4
      have f0 := rb.frozen 0
      have f1 := rb.frozen 1
      have f2 := rb.frozen 2
      have f3 := rb.frozen 3
      have f4 := rb.frozen 4
      simp at d0 d1 d2 d3 d4
      clear rb
      go_wp2
      refine bodyPost_ret (v := .agg #[.int .i64 3, .slice none 0 0, .int .i64 0, .int .i64 0, .slice none 0 0]) (by simp [results, Try.results13, go_sem, d0, d1, d2, d3, d4]) rfl ⟨.slice none 0 0, .slice none 0 0, w.heap.size, by rw [E.out.1, E.out.2.1, E.out.2.2.1], Nat.le_refl _, ?_, by rw [E.out.2.2.2.1]; exact RowI.nil _ _ _ _ _, by rw [E.out.2.2.2.2]; exact RowB.nil _ _ _ _ _, ?_⟩
      · simpa using hb.size
      · exact ((((hb.setCell hle2 _).setCell hle2 _).setCell hle2 _).setCell hle2 _).setCell hle2 _
    by_cases hn4 : 400 < num
    · have hn4' : decide (400 < num) = true := decide_eq_true hn4
      have d0 := rb.cell 0
      have d1 := rb.cell 1
      have d2 := rb.cell 2
      have d3 := rb.cell 3
      have d4 := rb.cell 4
      have f0 := rb.frozen 0
      have f1 := rb.frozen 1
      have f2 := rb.frozen 2
      have f3 := rb.frozen 3
      have f4 := rb.frozen 4
      simp at d0 d1 d2 d3 d4
      clear rb
      go_wp2
      refine bodyPost_ret (v := .agg #[.int .i64 3, .slice none 0 0, .int .i64 0, .int .i64 0, .slice none 0 0]) (by simp [results, Try.results13, go_sem, d0, d1, d2, d3, d4]) rfl ⟨.slice none 0 0, .slice none 0 0, w.heap.size, by rw [E.out.1, E.out.2.1, E.out.2.2.1], Nat.le_refl _, ?_, by rw [E.out.2.2.2.1]; exact RowI.nil _ _ _ _ _, by rw [E.out.2.2.2.2]; exact RowB.nil _ _ _ _ _, ?_⟩
      · simpa using hb.size
      · exact ((((hb.setCell hle2 _).setCell hle2 _).setCell hle2 _).setCell hle2 _).setCell hle2 _
    have CM : Hid _ := fun w' => isMost_is M false w' (by unfold ftBad at hbad; simp; omega)
    clear hbad
    have d0 := rb.cell 0
    have d1 := rb.cell 1
    have d2 := rb.cell 2
    have d3 := rb.cell 3
    have d4 := rb.cell 4
    have f0 := rb.frozen 0
    have f1 := rb.frozen 1
    have f2 := rb.frozen 2
    have f3 := rb.frozen 3
    have f4 := rb.frozen 4
    simp at d0 d1 d2 d3 d4
    clear rb
    go_wp2_with (go_at_call 48; refine (CM.out _).mono ?_; rintro e w9 ⟨rfl, rfl⟩)
    refine bodyPost_ret (v := .agg #[.int .i64 3, .slice none 0 0, .int .i64 0, .int .i64 0, .slice none 0 0]) (by simp [results, Try.results13, go_sem, d0, d1, d2, d3, d4]) rfl ⟨.slice none 0 0, .slice none 0 0, w.heap.size, by rw [E.out.1, E.out.2.1, E.out.2.2.1], Nat.le_refl _, ?_, by rw [E.out.2.2.2.1]; exact RowI.nil _ _ _ _ _, by rw [E.out.2.2.2.2]; exact RowB.nil _ _ _ _ _, ?_⟩
    · simpa using hb.size
    · exact ((((hb.setCell hle2 _).setCell hle2 _).setCell hle2 _).setCell hle2 _).setCell hle2 _
  have EE := hid (ft_good HF.out.symm hbad)
  obtain ⟨hok, hx4⟩ := asked_ok HF.out.symm
  unfold ftBad at hbad
  have CM : Hid _ := fun w' => isMost_is M true w' (by simp; omega)
  have hn0 : ¬ num < 0 := by omega
  have hn4 : ¬ 400 < num := by omega
  obtain ⟨N, rfl⟩ : ∃ N : Nat, num = (N : Int) := ⟨num.toNat, by omega⟩
  obtain ⟨MM, rfl⟩ : ∃ MM : Nat, M = (MM : Int) := ⟨M.toNat, by omega⟩
  obtain ⟨U, rfl⟩ : ∃ U : Nat, u = (U : Int) := ⟨u.toNat, by have := hok.u1; omega⟩
  rw [Int.toNat_natCast, Int.toNat_natCast] at EE
  have hby := okC_byB hok
  have hu1 := hok.u1
  have hu2 := hok.u2
  have hl6 : bs.length ≤ 6 := by have := hok.len; have := hok.z2; omega
  have hnl : bs.length = n := HA.out.len
  have hYl := ftB_len hok xs N
  have hQb := ftQ_bd z bs N (ftB U bs xs N)
  have CS : Hid _ := fun w' ha' => shelfOf_any U z a n ca bs w' ha' hok (by omega)
  have CT : Hid _ := fun bm T E w' (hs : Shelf bm U z T w' E bs) (hr : Rd .u8 w' p m xs) (hT : T < 100000) => fetch_any bm U z T E bs N MM p m cp xs w' hs hok hr (by omega) hmc HCM.out (by omega) (by omega) (by omega) hT
  generalize hYe : ftB U bs xs N = Y at EE CT hYl hQb
  generalize hQe : ftQ z bs N Y = Q at EE CT hQb
  clear hok hYe hQe
  go_wp2_with fail
  refine (CM.out _).mono ?_
  rintro e w9 ⟨rfl, rfl⟩
  go_wp2_with fail
  refine Calls.mono (CS.out _ (HA.out.below hb)) ?_
  rintro e w3 ⟨E, rfl, hs3, hb3⟩
  have hb03 := hb.trans (hb3.mono hb.size)
  have rb3 : Blk w3 (w.heap.size + 2) #[.int .i64 0, .slice none 0 0, .int .i64 0, .int .i64 0, .slice none 0 0] 32 := (hb3.block _ hz2).trans rb
  replace qf := cell_later hb3 qf
  have hz3 := hs3.blk.lt
  have hbz := hb3.size
  have CT3 := hid (CT.out _ _ _ w3 hs3 (HP.out.below hb03) (by omega))
  clear rb q0 q1 q2 hs3 hb3 CT CS CF
  go_wp2_with fail
  refine Calls.mono CT3.out ?_
  rintro e w4 ⟨ya, yc, E4, T4, rfl, hr4, hyc, hym, hs4, hT4, hC4, -⟩
  have hb04 : Below w.heap.size w w4 := below_chg hb03 hC4 (by omega) (by omega)
  have rb4 : Blk w4 (w.heap.size + 2) #[.int .i64 0, .slice none 0 0, .int .i64 0, .int .i64 0, .slice none 0 0] 32 := (hC4.block _ rb3.lt (by omega)).trans rb3
  have hz4 := hC4.size
  have CC := hid (copied_any ya Y.length yc Y w4 hr4 (by omega))
  clear CT3 hC4 rb3 hr4 hym hyc
  go_wp2_with fail
  refine Calls.mono CC.out ?_
  rintro e w5 ⟨v5, rfl, hr5, hb5⟩
  obtain ⟨a5, c5, hv5, -, -⟩ := hr5.shape
  subst hv5
  have hs5 := hs4.below hb5
  have hE4 := hs5.hold.1
  have hb05 := hb04.trans (hb5.mono hb04.size)
  have rb5 : Blk w5 (w.heap.size + 2) #[.int .i64 0, .slice none 0 0, .int .i64 0, .int .i64 0, .slice none 0 0] 32 := (hb5.block _ rb4.lt).trans rb4
  have hz5 := hb5.size
  have CK := hid (cache_any _ U z T4 E4 Q w5 hs5 (by omega) (by omega))
  clear CC hs4 hs5 hb5 rb4
  go_wp2_with fail
  refine Calls.mono CK.out ?_
  rintro e w6 ⟨v6, rfl, hr6, hb6⟩
  obtain ⟨a6, c6, hv6, -, -⟩ := hr6.shape
  subst hv6
  have hb06 := hb05.trans (hb6.mono hb05.size)
  have hr56 := hr5.below hb6
  have rb : Blk w6 (w.heap.size + 2) #[.int .i64 0, .slice none 0 0, .int .i64 0, .int .i64 0, .slice none 0 0] 32 := (hb6.block _ rb5.lt).trans rb5
  have hz6 := hb6.size
  have d0 := rb.cell 0
  have d1 := rb.cell 1
  have d2 := rb.cell 2
  have d3 := rb.cell 3
  have d4 := rb.cell 4
  have f0 := rb.frozen 0
  have f1 := rb.frozen 1
  have f2 := rb.frozen 2
  have f3 := rb.frozen 3
  have f4 := rb.frozen 4
  simp at d0 d1 d2 d3 d4
  have HR5 := hid hr56
  have HR6 := hid hr6
  have hg5 : ∀ x0 x1 x2 x3 x4, w6.grownBy (((((w6.setCell ⟨w.heap.size + 2, 0, none⟩ x0).setCell ⟨w.heap.size + 2, 1, none⟩ x1).setCell ⟨w.heap.size + 2, 2, none⟩ x2).setCell ⟨w.heap.size + 2, 3, none⟩ x3).setCell ⟨w.heap.size + 2, 4, none⟩ x4) (some (w.heap.size + 2)) := fun x0 x1 x2 x3 x4 => grownT (grownT (grownT (grownT (set_grown _ _ _ _) (set_grown _ _ _ _)) (set_grown _ _ _ _)) (set_grown _ _ _ _)) (set_grown _ _ _ _)
  clear hr5 hr56 hr6 rb rb5 CK hb6
  go_wp2
  refine bodyPost_ret (v := .agg #[.int .i64 0, .slice a5 Y.length c5, .int .i64 U, .int .i64 z, .slice a6 Q.length c6]) (by simp [results, Try.results13, go_sem, d0, d1, d2, d3, d4]) rfl ⟨.slice a5 Y.length c5, .slice a6 Q.length c6, w5.heap.size, by rw [EE.out.1, EE.out.2.1, EE.out.2.2.1], by omega, ?_, ?_, ?_, ?_⟩
  · simpa [World.setCell] using hz6
  · rw [EE.out.2.2.2.1]
    exact (RowI.chg HR5.out (Chg.one (hg5 (.int .i64 0) (.slice a5 Y.length c5) (.int .i64 U) (.int .i64 z) (.slice a6 Q.length c6))) (.inr (by omega))).mono (by omega) (Nat.le_refl _)
  · rw [EE.out.2.2.2.2]
    exact (RowB.chg HR6.out (Chg.one (hg5 (.int .i64 0) (.slice a5 Y.length c5) (.int .i64 U) (.int .i64 z) (.slice a6 Q.length c6))) (.inr (by omega))).mono (Nat.le_refl _) (by simp [World.setCell])
  · exact ((((hb06.setCell hle2 _).setCell hle2 _).setCell hle2 _).setCell hle2 _).setCell hle2 _
end Go.Proofs.Ytckkkhabjfbngaa

namespace Go.Proofs.Ytckkkhabjfbngaa
open Go.RowKit Go.ChangeMaps Go.MapKept
set_option linter.unusedVariables false
set_option linter.unusedSimpArgs false

set_option maxHeartbeats 3200000 in
set_option maxRecDepth 20000 in
theorem specFetchBlock_any (u z : Int) (a : Option Addr) (n ca : Nat) (bs : List Bk) (p : Option Addr) (m cp : Nat) (xs : List Int) (num M : Int) (w : World) (ha : RdB w a n bs) (hp : Rd .u8 w p m xs) (h1 : (n : Int) + byB bs ≤ 1048576) (hm : m ≤ 1048576) (hmc : m ≤ cp) (hcm : cp ≤ maxLen) :
    Calls Try.prog 14 #[.agg #[.int .i64 u, .int .i64 z, .slice a n ca], .agg #[.slice p m cp], .int .i64 num, .int .i64 M] w fun e w' => ∃ vb va, e = .returned (.agg #[.int .i64 (ftCode u z bs xs num M), vb, .int .i64 (ftU u z bs xs num M), .int .i64 (ftZ u z bs xs num M), va]) ∧
      RowI .u8 5 w' w.heap.size w'.heap.size vb (ftR u z bs xs num M).length (ftR u z bs xs num M) ∧ RowB 93 5 w' w.heap.size w'.heap.size va (ftS u z bs xs num M).length (ftS u z bs xs num M) ∧ Below w.heap.size w w' := by
  have B3 : ∀ o1 o2 o3, Below w.heap.size w (((w.alloc o1).alloc o2).alloc o3) := fun o1 o2 o3 => (((Below.refl _ _).alloc (Nat.le_refl _) o1).alloc (by simp) o2).alloc (by simp; omega) o3
  have hxl := hp.1
  have CF : Hid _ := fun w' c0 c1 c2 cf ha' => l3Asked_any w.heap.size (w.heap.size + 1) u z a n ca bs p m cp w' c0 c1 c2 cf ha' (by omega) (by omega)
  have HA : Hid (RdB w a n bs) := ha
  have HP : Hid (Rd .u8 w p m xs) := hp
  have HCM := hid hcm
  obtain ⟨F, hF⟩ : ∃ F, F = asked u z bs m := ⟨_, rfl⟩
  rw [← hF] at CF
  rw [← hxl] at hF
  have HF : Hid (F = asked u z bs xs.length) := hF
  clear ha hF hp hcm
  go_enter Try.func14, Try.ntmps14
  go_wp2_with fail
  refine Calls.mono (CF.out _ (by simp [go_sem]) (by simp [go_sem]) (by simp [go_sem]) (by simp [go_sem]) (HA.out.below (B3 _ _ _))) ?_
  rintro e w2 ⟨rfl, hb2⟩
  have hb := (B3 _ _ _).trans (hb2.mono (by simp; omega))
  have q0 : w2.cell? ⟨w.heap.size, 0, none⟩ = some (.int .i64 u) := cell_later hb2 (by simp [go_sem])
  have q1 : w2.cell? ⟨w.heap.size, 1, none⟩ = some (.int .i64 z) := cell_later hb2 (by simp [go_sem])
  have q2 : w2.cell? ⟨w.heap.size, 2, none⟩ = some (.slice a n ca) := cell_later hb2 (by simp [go_sem])
  have qf : w2.cell? ⟨w.heap.size + 1, 0, none⟩ = some (.slice p m cp) := cell_later hb2 (by simp [go_sem])
  have rb : Blk w2 (w.heap.size + 2) #[.int .i64 0, .slice none 0 0, .int .i64 0, .int .i64 0, .slice none 0 0] 32 := by
    have hq := Blk.new ((w.alloc (Obj.cells #[Value.int .i64 u, Value.int .i64 z, Value.slice a n ca] 26)).alloc (Obj.cells #[Value.slice p m cp] 28)) #[.int .i64 0, .slice none 0 0, .int .i64 0, .int .i64 0, .slice none 0 0] 32
    rw [World.size_alloc, World.size_alloc] at hq
    exact (hb2.block (w.heap.size + 2) (by simp)).trans hq
  have hz2 : w.heap.size + 2 < w2.heap.size := rb.lt
  clear hb2
  by_cases hF0 : F = 0
  case neg =>
    have hF0' : (F == 0) = false := by simpa using hF0
    have E := hid (ft_bad (num := num) (M := M) (ft_asked (show asked u z bs xs.length ≠ 0 by rw [← HF.out]; exact hF0)) (by rw [← HF.out]; exact hF0))
    rw [← HF.out] at E
    go_wp2_with fail
    refine (l3Bad_res F _).mono ?_
    rintro e w3 ⟨rfl, hb3⟩
    have hb03 := hb.trans (hb3.mono hb.size)
    replace rb : Blk w3 (w.heap.size + 2) #[.int .i64 0, .slice none 0 0, .int .i64 0, .int .i64 0, .slice none 0 0] 32 := (hb3.block _ rb.lt).trans rb
    have d0 := rb.cell 0
    have d1 := rb.cell 1
    have d2 := rb.cell 2
    have d3 := rb.cell 3
    have d4 := rb.cell 4
    have f0 := rb.frozen 0
    have f1 := rb.frozen 1
    have f2 := rb.frozen 2
    have f3 := rb.frozen 3
    have f4 := rb.frozen 4
    simp at d0 d1 d2 d3 d4
    clear rb
    go_wp2
    refine bodyPost_ret (v := .agg #[.int .i64 F, .slice none 0 0, .int .i64 0, .int .i64 0, .slice none 0 0]) (by simp [results, Try.results14, go_sem, d0, d1, d2, d3, d4]) rfl ⟨.slice none 0 0, .slice none 0 0, by rw [E.out.1, E.out.2.1, E.out.2.2.1], by rw [E.out.2.2.2.1]; exact RowI.nil _ _ _ _ _, by rw [E.out.2.2.2.2]; exact RowB.nil _ _ _ _ _, ?_⟩
    exact ((((hb03.setCell (by simp; omega) _).setCell (by simp; omega) _).setCell (by simp; omega) _).setCell (by simp; omega) _).setCell (by simp; omega) _
  subst hF0
  by_cases hn : 0 ≤ num ∧ num ≤ 400
  case neg =>
    have E := hid (ft_bad (num := num) (M := M) (ft_range HF.out.symm (by unfold ftBad; omega)) (by omega))
    go_wp2_with fail
    refine (l1In_is num 0 400 false _ (decide_eq_false hn)).mono ?_
    rintro e w2' ⟨rfl, rfl⟩
    go_wp2_with fail
    refine (l3Bad_res 3 _).mono ?_
    rintro e w3 ⟨rfl, hb3⟩
    have hb03 := hb.trans (hb3.mono hb.size)
    replace rb : Blk w3 (w.heap.size + 2) #[.int .i64 0, .slice none 0 0, .int .i64 0, .int .i64 0, .slice none 0 0] 32 := (hb3.block _ rb.lt).trans rb
    have d0 := rb.cell 0
    have d1 := rb.cell 1
    have d2 := rb.cell 2
    have d3 := rb.cell 3
    have d4 := rb.cell 4
    have f0 := rb.frozen 0
    have f1 := rb.frozen 1
    have f2 := rb.frozen 2
    have f3 := rb.frozen 3
    have f4 := rb.frozen 4
    simp at d0 d1 d2 d3 d4
    clear rb
    go_wp2
    refine bodyPost_ret (v := .agg #[.int .i64 3, .slice none 0 0, .int .i64 0, .int .i64 0, .slice none 0 0]) (by simp [results, Try.results14, go_sem, d0, d1, d2, d3, d4]) rfl ⟨.slice none 0 0, .slice none 0 0, by rw [E.out.1, E.out.2.1, E.out.2.2.1], by rw [E.out.2.2.2.1]; exact RowI.nil _ _ _ _ _, by rw [E.out.2.2.2.2]; exact RowB.nil _ _ _ _ _, ?_⟩
    exact ((((hb03.setCell (by simp; omega) _).setCell (by simp; omega) _).setCell (by simp; omega) _).setCell (by simp; omega) _).setCell (by simp; omega) _
  by_cases hM : 1 ≤ M ∧ M ≤ 400
  case neg =>
    have E := hid (ft_bad (num := num) (M := M) (ft_range HF.out.symm (by unfold ftBad; omega)) (by omega))
    go_wp2_with fail
    refine (l1In_is num 0 400 true _ (decide_eq_true hn)).mono ?_
    rintro e w2' ⟨rfl, rfl⟩
    go_wp2_with fail
    refine (l1In_is M 1 400 false _ (decide_eq_false hM)).mono ?_
    rintro e w2' ⟨rfl, rfl⟩
    go_wp2_with fail
    refine (l3Bad_res 3 _).mono ?_
    rintro e w3 ⟨rfl, hb3⟩
    have hb03 := hb.trans (hb3.mono hb.size)
    replace rb : Blk w3 (w.heap.size + 2) #[.int .i64 0, .slice none 0 0, .int .i64 0, .int .i64 0, .slice none 0 0] 32 := (hb3.block _ rb.lt).trans rb
    have d0 := rb.cell 0
    have d1 := rb.cell 1
    have d2 := rb.cell 2
    have d3 := rb.cell 3
    have d4 := rb.cell 4
    have f0 := rb.frozen 0
    have f1 := rb.frozen 1
    have f2 := rb.frozen 2
    have f3 := rb.frozen 3
    have f4 := rb.frozen 4
    simp at d0 d1 d2 d3 d4
    clear rb
    go_wp2
    refine bodyPost_ret (v := .agg #[.int .i64 3, .slice none 0 0, .int .i64 0, .int .i64 0, .slice none 0 0]) (by simp [results, Try.results14, go_sem, d0, d1, d2, d3, d4]) rfl ⟨.slice none 0 0, .slice none 0 0, by rw [E.out.1, E.out.2.1, E.out.2.2.1], by rw [E.out.2.2.2.1]; exact RowI.nil _ _ _ _ _, by rw [E.out.2.2.2.2]; exact RowB.nil _ _ _ _ _, ?_⟩
    exact ((((hb03.setCell (by simp; omega) _).setCell (by simp; omega) _).setCell (by simp; omega) _).setCell (by simp; omega) _).setCell (by simp; omega) _
  obtain ⟨hok, hm4⟩ := asked_ok HF.out.symm
  have E := hid (ft_good (num := num) (M := M) HF.out.symm (by unfold ftBad; omega))
  have hu1 := hok.u1
  obtain ⟨U, rfl⟩ : ∃ U : Nat, u = (U : Int) := ⟨u.toNat, by omega⟩
  obtain ⟨N, rfl⟩ : ∃ N : Nat, num = (N : Int) := ⟨num.toNat, by omega⟩
  obtain ⟨K, rfl⟩ : ∃ K : Nat, M = (K : Int) := ⟨M.toNat, by omega⟩
  rw [Int.toNat_natCast, Int.toNat_natCast] at E
  have CS : Hid _ := fun w' hc' ha' hp' => l3Fetch_any (w.heap.size + 1) (U : Int) z a n ca bs p m cp xs U N K w' hc' ha' hp' hok rfl h1 hm hmc HCM.out (by omega) (by omega) (by omega)
  obtain ⟨Y, hY⟩ : ∃ Y, Y = ftB U bs xs N := ⟨_, rfl⟩
  rw [← hY] at E CS
  obtain ⟨Q, hQ⟩ : ∃ Q, Q = ftQ z bs (N : Int) Y := ⟨_, rfl⟩
  rw [← hQ] at E CS
  clear hok hQ hY hu1
  go_wp2_with fail
  refine (l1In_is (N : Int) 0 400 true _ (decide_eq_true hn)).mono ?_
  rintro e w2' ⟨rfl, rfl⟩
  go_wp2_with fail
  refine (l1In_is (K : Int) 1 400 true _ (decide_eq_true hM)).mono ?_
  rintro e w2' ⟨rfl, rfl⟩
  go_wp2_with fail
  refine Calls.mono (CS.out _ (by simpa using qf) (HA.out.below (by first | exact hb | exact hb.drew)) (HP.out.below (by first | exact hb | exact hb.drew))) ?_
  rintro e w3 ⟨v3, v4, rfl, hy3, hr3, hb3⟩
  obtain ⟨y3, k3, rfl, -, -⟩ := hy3.shape
  obtain ⟨a3, c3, rfl, -, -⟩ := hr3.shape
  have hb03 := hb.trans (hb3.mono hb.size)
  have hlt := rb.lt
  have hz3 := hb3.size
  have n3 : Below w3.heap.size w3 (w3.alloc (Obj.cells #[Value.int .i64 U, Value.int .i64 z, Value.slice a3 Q.length c3] 26)) := (Below.refl _ _).alloc (Nat.le_refl _) _
  replace rb : Blk w3 (w.heap.size + 2) #[.int .i64 0, .slice none 0 0, .int .i64 0, .int .i64 0, .slice none 0 0] 32 := (hb3.block _ rb.lt).trans rb
  have rb4 := rb.alloc (Obj.cells #[Value.int .i64 U, Value.int .i64 z, Value.slice a3 Q.length c3] 26)
  have HY3 := hid (RowI.below hy3 n3)
  have HR3 := hid (RowB.below hr3 n3)
  have hb4 := hb03.alloc (by omega) (Obj.cells #[Value.int .i64 U, Value.int .i64 z, Value.slice a3 Q.length c3] 26)
  have HB4 := hid hb4
  clear hy3 hr3 hb3 CS n3 hb4 rb
  have rb := rb4
  clear rb4
  have d0 := rb.cell 0
  have d1 := rb.cell 1
  have d2 := rb.cell 2
  have d3 := rb.cell 3
  have d4 := rb.cell 4
  have f0 := rb.frozen 0
  have f1 := rb.frozen 1
  have f2 := rb.frozen 2
  have f3 := rb.frozen 3
  have f4 := rb.frozen 4
  simp at d0 d1 d2 d3 d4
  clear rb
  have hg5 : ∀ (W : World) x0 x1 x2 x3 x4, W.grownBy (((((W.setCell ⟨w.heap.size + 2, 0, none⟩ x0).setCell ⟨w.heap.size + 2, 1, none⟩ x1).setCell ⟨w.heap.size + 2, 2, none⟩ x2).setCell ⟨w.heap.size + 2, 3, none⟩ x3).setCell ⟨w.heap.size + 2, 4, none⟩ x4) (some (w.heap.size + 2)) := fun W x0 x1 x2 x3 x4 => grownT (grownT (grownT (grownT (set_grown _ _ _ _) (set_grown _ _ _ _)) (set_grown _ _ _ _)) (set_grown _ _ _ _)) (set_grown _ _ _ _)
  have HG5 := hid hg5
  clear hg5
  go_wp2
  refine bodyPost_ret (v := .agg #[.int .i64 0, .slice y3 Y.length k3, .int .i64 U, .int .i64 z, .slice a3 Q.length c3]) (by simp [results, Try.results14, go_sem, d0, d1, d2, d3, d4]) rfl ⟨.slice y3 Y.length k3, .slice a3 Q.length c3, by rw [E.out.1, E.out.2.1, E.out.2.2.1], ?_, ?_, ?_⟩
  · rw [E.out.2.2.2.1]
    have hq := RowI.chg HY3.out (Chg.one (HG5.out _ (.int .i64 0) (.slice y3 Y.length k3) (.int .i64 U) (.int .i64 z) (.slice a3 Q.length c3))) (.inr (by omega))
    exact hq.mono (by omega) (by simp [World.setCell])
  · rw [E.out.2.2.2.2]
    have hq := RowB.chg HR3.out (Chg.one (HG5.out _ (.int .i64 0) (.slice y3 Y.length k3) (.int .i64 U) (.int .i64 z) (.slice a3 Q.length c3))) (.inr (by omega))
    exact hq.mono (by omega) (by simp [World.setCell])
  · exact ((((HB4.out.setCell (by simp; omega) _).setCell (by simp; omega) _).setCell (by simp; omega) _).setCell (by simp; omega) _).setCell (by simp; omega) _
end Go.Proofs.Ytckkkhabjfbngaa

namespace Go.Proofs.Ytckkkhabjfbngaa
set_option linter.unusedVariables false

theorem ft_zero {u z : Int} {bs : List Bk} {xs : List Int} {num M : Int} (h : ftCode u z bs xs num M = 0) : OkC u z bs := by
  unfold ftCode at h
  by_cases q : asked u z bs xs.length ≠ 0
  · rw [if_pos q] at h; exact absurd h q
  · exact (asked_ok (n := xs.length) (Decidable.not_not.1 q)).1

theorem ftR_len (u z : Int) (bs : List Bk) (xs : List Int) (num M : Int) : (ftR u z bs xs num M).length ≤ 400 := by
  unfold ftR
  split
  · rename_i h
    have hok := ft_zero h
    have h1 := hok.u1
    have h2 := hok.u2
    have := ftB_len (U := u.toNat) (Z := z) (by rw [Int.toNat_of_nonneg (by omega)]; exact hok) xs num.toNat
    omega
  · simp

theorem ftS_len (u z : Int) (bs : List Bk) (xs : List Int) (num M : Int) : ((ftS u z bs xs num M).length : Int) + byB (ftS u z bs xs num M) ≤ 1000000 := by
  unfold ftS
  split
  · rename_i h
    have hok := ft_zero h
    have h1 := hok.u1
    have h2 := hok.u2
    have h3 := ftB_len (U := u.toNat) (Z := z) (by rw [Int.toNat_of_nonneg (by omega)]; exact hok) xs num.toNat
    have h4 := ftQ_bd z bs num (ftB u.toNat bs xs num.toNat)
    have h5 := okC_byB hok
    have h6 := hok.len
    have h7 := hok.z2
    omega
  · simp [byB]
end Go.Proofs.Ytckkkhabjfbngaa

namespace Go.Proofs.Ytckkkhabjfbngaa
open Go.RowKit
set_option linter.unusedVariables false
set_option linter.unusedSimpArgs false

theorem rowFault_of {u : Int} : ∀ (bs ah : List Bk), (∀ b ∈ bs, 0 ≤ b.1 ∧ b.1 ≤ 400 ∧ 1 ≤ b.2.length ∧ (b.2.length : Int) ≤ u ∧ hasN ah b.1 = false) → (bs.map (·.1)).Nodup → rowFault u ah bs = 0
  | [], ah, _, _ => rfl
  | b :: bs, ah, h, hn => by
    rw [List.map_cons, List.nodup_cons] at hn
    obtain ⟨h1, h2, h3, h4, h5⟩ := h b List.mem_cons_self
    have e0 : oneFault u ah b = 0 := by
      unfold oneFault
      rw [if_neg (by omega), if_neg (by omega), if_neg (by simp [h5])]
    rw [rowFault, e0, if_neg (by simp)]
    refine rowFault_of bs (ah ++ [b]) (fun c hc => ?_) hn.2
    obtain ⟨k1, k2, k3, k4, k5⟩ := h c (List.mem_cons_of_mem _ hc)
    refine ⟨k1, k2, k3, k4, ?_⟩
    rw [hasN_append, k5]
    simp [hasN]
    intro e
    exact hn.1 (by rw [e]; exact List.mem_map.2 ⟨c, hc, rfl⟩)

theorem cacheFault_of {u z : Int} {bs : List Bk} (h : OkC u z bs) : cacheFault u z bs = 0 := by
  have h1 := h.u1
  have h2 := h.u2
  have h3 := h.z1
  have h4 := h.z2
  have h5 := h.len
  unfold cacheFault
  rw [if_neg (by omega), if_neg (by omega)]
  exact rowFault_of bs [] (fun b hb => ⟨(h.each b hb).1, (h.each b hb).2.1, (h.each b hb).2.2.1, (h.each b hb).2.2.2, rfl⟩) h.nodup

theorem getN_mem {bs : List Bk} {x : Int} {Y : List Int} (h : getN bs x = some Y) : (x, Y) ∈ bs := by
  induction bs with
  | nil => simp [getN] at h
  | cons b bs ih =>
    rw [getN] at h
    by_cases hb : b.1 = x
    · rw [if_pos hb] at h
      have h' : b.2 = Y := by simpa using h
      rw [← hb, ← h']
      exact List.mem_cons_self
    · rw [if_neg hb] at h
      exact List.mem_cons_of_mem _ (ih h)

/-- What was fetched is held, if it is not nothing. -/
theorem ftQ_has {U : Nat} {z : Int} {bs : List Bk} (hok : OkC U z bs) {num : Nat} {Y : List Int} (hY : ¬ Y.length = 0) : ((num : Int), Y) ∈ ftQ z bs num Y := by
  have h1 := hok.z1
  unfold ftQ
  rw [if_neg hY]
  by_cases hz : z < ((lessB bs num ++ [((num : Int), Y)]).length : Int)
  · rw [if_pos hz]
    have hl : 1 ≤ (lessB bs (num : Int)).length := by
      rw [List.length_append] at hz
      simp at hz
      omega
    rw [List.drop_append_of_le_length hl]
    simp
  · rw [if_neg hz]
    simp

/-- Who fetches again gets the same. -/
theorem ft_again {U : Nat} {z : Int} {bs : List Bk} (hok : OkC U z bs) {xs : List Int} (hx : xs.length ≤ 400) (num : Nat) : ftB U (ftQ z bs num (ftB U bs xs num)) xs num = ftB U bs xs num := by
  by_cases h0 : (ftB U bs xs num).length = 0
  · rw [ftQ_none h0]
  · have hq := okC_ft hok hx num
    have hm := ftQ_has (z := z) hok (num := num) h0
    generalize ftB U bs xs num = Y at *
    unfold ftB
    rw [getN_some hq.nodup hm]
    rfl

/-- Out of a true cache one gets what the file has. -/
theorem ft_true {U : Nat} {bs : List Bk} {xs : List Int} (ht : trueB xs U bs = true) (num : Nat) : ftB U bs xs num = blkAt xs num U := by
  unfold ftB
  cases h : getN bs num with
  | none => rfl
  | some Y =>
    unfold trueB at ht
    rw [List.all_eq_true] at ht
    have := ht _ (getN_mem h)
    simpa using this

/-- A true cache stays so. -/
theorem true_ft {U : Nat} {z : Int} {bs : List Bk} {xs : List Int} (ht : trueB xs U bs = true) (num : Nat) : trueB xs U (ftQ z bs num (ftB U bs xs num)) = true := by
  have hY := ft_true ht num
  unfold trueB at *
  rw [List.all_eq_true] at *
  have hall : ∀ b ∈ lessB bs num ++ [((num : Int), ftB U bs xs num)], decide (b.2 = blkAt xs b.1.toNat U) = true := by
    intro b hb
    rcases List.mem_append.1 hb with q | q
    · exact ht _ (List.mem_filter.1 q).1
    · rw [List.mem_singleton] at q
      subst q
      simpa using hY
  intro b hb
  unfold ftQ at hb
  split at hb
  · exact ht b hb
  · split at hb
    · exact hall b (List.mem_of_mem_drop hb)
    · exact hall b hb

/-- Of what is read through a true cache it is what the file has. -/
theorem true_rg {U : Nat} {z : Int} {xs : List Int} {E : Nat} : ∀ (k P : Nat) (bs : List Bk), trueB xs U bs = true → trueB xs U (rg U z xs E k P bs).2 = true
  | 0, P, bs, ht => ht
  | k + 1, P, bs, ht => by
    have hq := true_ft (z := z) ht (P / U)
    rw [rg]
    by_cases h : P < E
    · rw [if_pos h]
      by_cases hs : (ftB U bs xs (P / U)).length < U
      · rw [if_pos hs]; exact hq
      · rw [if_neg hs]; exact true_rg k _ _ hq
    · rw [if_neg h]; exact ht
end Go.Proofs.Ytckkkhabjfbngaa

namespace Go.Proofs.Ytckkkhabjfbngaa
open Go.RowKit
set_option linter.unusedVariables false
set_option linter.unusedSimpArgs false

def SmallB' (bs : List Bk) : Prop := (bs.length : Int) + byB bs ≤ 1000

structure FtAll (u z : Int) (bs : List Bk) (fs : List Int) (num M : Int) (R : List Int) (Q : List Bk) : Prop where
  u1 : 1 ≤ u
  u2 : u ≤ 64
  n0 : 0 ≤ num
  n1 : num ≤ 400
  fl : fs.length ≤ 400
  bytes : BytesB bs → Bytes fs → BytesB Q
  fault : cacheFault u z Q = 0
  code : ftCode u z Q fs num M = 0
  same : ftR u z Q fs num M = R
  len : (Q.length : Int) ≤ z
  some : R.length = 0 ∨ 0 < Q.length
  small : SmallB' Q
  tr : cacheTrue u z bs fs = true → cacheTrue u z Q fs = true ∧ rpCode fs (num * u) u 400 = 0 ∧ rpRes fs (num * u) u 400 = R

theorem ft_all {u z : Int} {bs : List Bk} {fs : List Int} {num M : Int} (h : ftCode u z bs fs num M = 0) : ftU u z bs fs num M = u ∧ ftZ u z bs fs num M = z ∧ FtAll u z bs fs num M (ftR u z bs fs num M) (ftS u z bs fs num M) := by
  have ha : asked u z bs fs.length = 0 := by
    unfold ftCode at h
    by_cases q : asked u z bs fs.length ≠ 0
    · rw [if_pos q] at h; exact absurd h q
    · exact Decidable.not_not.1 q
  have hb : ¬ ftBad num M := by
    unfold ftCode at h
    rw [if_neg (fun k => k ha)] at h
    intro q
    rw [if_pos q] at h
    omega
  obtain ⟨-, e1, e2, e3, e4⟩ := ft_good ha hb
  obtain ⟨hok, hx⟩ := asked_ok ha
  refine ⟨e1, e2, ?_⟩
  rw [e3, e4]
  have hu1 := hok.u1
  have hu2 := hok.u2
  unfold ftBad at hb
  obtain ⟨U, rfl⟩ : ∃ U : Nat, u = (U : Int) := ⟨u.toNat, by omega⟩
  obtain ⟨N, rfl⟩ : ∃ N : Nat, num = (N : Int) := ⟨num.toNat, by omega⟩
  simp only [Int.toNat_natCast]
  have hq := okC_ft hok hx N
  have hqa : asked U z (ftQ z bs N (ftB U bs fs N)) fs.length = 0 := by
    unfold asked
    rw [cacheFault_of hq, if_neg (by simp)]
    unfold fFault
    rw [if_neg (by omega)]
  obtain ⟨c1, -, -, c4, -⟩ := ft_good (num := (N : Int)) (M := M) hqa (by unfold ftBad; omega)
  refine ⟨by omega, by omega, by omega, by omega, hx, fun h1 h2 => bytes_ft h1 h2 z U N, cacheFault_of hq, c1, ?_, hq.len, ?_, ?_, ?_⟩
  · rw [c4]
    simp only [Int.toNat_natCast]
    exact ft_again hok hx N
  · by_cases h0 : (ftB U bs fs N).length = 0
    · exact .inl h0
    · have := ftQ_has (z := z) hok (num := N) h0
      exact .inr (List.length_pos_of_mem this)
  · have h1 := okC_byB hq
    have h2 := hq.len
    have h3 := hq.z2
    unfold SmallB'
    omega
  · intro ht
    unfold cacheTrue at ht
    simp only [Bool.and_eq_true, decide_eq_true_eq, Int.toNat_natCast] at ht
    refine ⟨?_, ?_, ?_⟩
    · unfold cacheTrue
      simp only [Bool.and_eq_true, decide_eq_true_eq, Int.toNat_natCast]
      exact ⟨hqa, true_ft ht.2 N⟩
    · have hc : rpCode fs ((N : Int) * (U : Int)) U 400 = 0 := by
        unfold rpCode
        have : (0 : Int) ≤ (N : Int) * (U : Int) := Int.mul_nonneg (by omega) (by omega)
        rw [if_neg (by omega), if_neg (by omega)]
      exact hc
    · have hc : rpCode fs ((N : Int) * (U : Int)) U 400 = 0 := by
        unfold rpCode
        have : (0 : Int) ≤ (N : Int) * (U : Int) := Int.mul_nonneg (by omega) (by omega)
        rw [if_neg (by omega), if_neg (by omega)]
      rw [ft_true ht.2 N]
      unfold rpRes blkAt
      rw [if_pos hc]
      congr 1
      · omega
end Go.Proofs.Ytckkkhabjfbngaa
