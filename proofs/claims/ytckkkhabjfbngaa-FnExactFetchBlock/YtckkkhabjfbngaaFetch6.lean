/-
  Fetch4, Fetch5 in one text.
-/
import Derived.Test.YtckkkhabjfbngaaFetch3
import Derived.Test.YtckkkhabjfbngaaCache3
import Derived.Test.YtckkkhabjfbngaaCache4
import Derived.Test.YtckkkhabjfbngaaFetch2
namespace Go.Proofs.Ytckkkhabjfbngaa
open Go.RowKit Go.ChangeMaps Go.MapKept
set_option linter.unusedVariables false
set_option linter.unusedSimpArgs false

set_option maxHeartbeats 3200000 in
set_option maxRecDepth 20000 in
theorem specFetchBlock_any (u z : Int) (a : Option Addr) (n ca : Nat) (bs : List Bk) (p : Option Addr) (m cp : Nat) (xs : List Int) (num M : Int) (w : World) (ha : RdB w a n bs) (hp : Rd .u8 w p m xs) (h1 : (n : Int) + byB bs ≤ 1048576) (hm : m ≤ 1048576) (hmc : m ≤ cp) (hcm : cp ≤ maxLen) :
    Calls Try.prog 14 #[.agg #[.int .i64 u, .int .i64 z, .slice a n ca], .agg #[.slice p m cp], .int .i64 num, .int .i64 M] w fun e w' => ∃ vb va, e = .returned (.agg #[.int .i64 (ftCode u z bs xs num M), vb, .int .i64 (ftU u z bs xs num M), .int .i64 (ftZ u z bs xs num M), va]) ∧
      RowI .u8 5 w' w.heap.size w'.heap.size vb (ftR u z bs xs num M).length (ftR u z bs xs num M) ∧ RowB 93 5 w' w.heap.size w'.heap.size va (ftS u z bs xs num M).length (ftS u z bs xs num M) ∧ Below w.heap.size w w' := by
  have B3 : ∀ o1 o2 o3, Below w.heap.size w (((w.alloc o1).alloc o2).alloc o3) := fun o1 o2 o3 => (((Below.refl _ _).alloc (Nat.le_refl _) o1).alloc (by simp) o2).alloc (by simp; omega) o3
  have hxl := hp.1
  have CF : Hid _ := fun w' c0 c1 c2 cf ha' => l3Asked_any w.heap.size (w.heap.size + 1) u z a n ca bs p m cp w' c0 c1 c2 cf ha' (by omega) (by omega)
  have HA : Hid (RdB w a n bs) := ha
  have HP : Hid (Rd .u8 w p m xs) := hp
  have HCM := hid hcm
  obtain ⟨F, hF⟩ : ∃ F, F = asked u z bs m := ⟨_, rfl⟩
  rw [← hF] at CF
  rw [← hxl] at hF
  have HF : Hid (F = asked u z bs xs.length) := hF
  clear ha hF hp hcm
  go_enter Try.func14, Try.ntmps14
  go_wp2_with fail
  refine Calls.mono (CF.out _ (by simp [go_sem]) (by simp [go_sem]) (by simp [go_sem]) (by simp [go_sem]) (HA.out.below (B3 _ _ _))) ?_
  rintro e w2 ⟨rfl, hb2⟩
  have hb := (B3 _ _ _).trans (hb2.mono (by simp; omega))
  have q0 : w2.cell? ⟨w.heap.size, 0, none⟩ = some (.int .i64 u) := cell_later hb2 (by simp [go_sem])
  have q1 : w2.cell? ⟨w.heap.size, 1, none⟩ = some (.int .i64 z) := cell_later hb2 (by simp [go_sem])
  have q2 : w2.cell? ⟨w.heap.size, 2, none⟩ = some (.slice a n ca) := cell_later hb2 (by simp [go_sem])
  have qf : w2.cell? ⟨w.heap.size + 1, 0, none⟩ = some (.slice p m cp) := cell_later hb2 (by simp [go_sem])
  have rb : Blk w2 (w.heap.size + 2) #[.int .i64 0, .slice none 0 0, .int .i64 0, .int .i64 0, .slice none 0 0] 32 := by
    have hq := Blk.new ((w.alloc (Obj.cells #[Value.int .i64 u, Value.int .i64 z, Value.slice a n ca] 26)).alloc (Obj.cells #[Value.slice p m cp] 28)) #[.int .i64 0, .slice none 0 0, .int .i64 0, .int .i64 0, .slice none 0 0] 32
    rw [World.size_alloc, World.size_alloc] at hq
    exact (hb2.block (w.heap.size + 2) (by simp)).trans hq
  have hz2 : w.heap.size + 2 < w2.heap.size := rb.lt
  clear hb2
  by_cases hF0 : F = 0
  case neg =>
    have hF0' : (F == 0) = false := by simpa using hF0
    have E := hid (ft_bad (num := num) (M := M) (ft_asked (show asked u z bs xs.length ≠ 0 by rw [← HF.out]; exact hF0)) (by rw [← HF.out]; exact hF0))
    rw [← HF.out] at E
    go_wp2_with fail
    refine (l3Bad_res F _).mono ?_
    rintro e w3 ⟨rfl, hb3⟩
    have hb03 := hb.trans (hb3.mono hb.size)
    replace rb : Blk w3 (w.heap.size + 2) #[.int .i64 0, .slice none 0 0, .int .i64 0, .int .i64 0, .slice none 0 0] 32 := (hb3.block _ rb.lt).trans rb
    have d0 := rb.cell 0
    have d1 := rb.cell 1
    have d2 := rb.cell 2
    have d3 := rb.cell 3
    have d4 := rb.cell 4
    have f0 := rb.frozen 0
    have f1 := rb.frozen 1
    have f2 := rb.frozen 2
    have f3 := rb.frozen 3
    have f4 := rb.frozen 4
    simp at d0 d1 d2 d3 d4
    clear rb
    go_wp2
    refine bodyPost_ret (v := .agg #[.int .i64 F, .slice none 0 0, .int .i64 0, .int .i64 0, .slice none 0 0]) (by simp [results, Try.results14, go_sem, d0, d1, d2, d3, d4]) rfl ⟨.slice none 0 0, .slice none 0 0, by rw [E.out.1, E.out.2.1, E.out.2.2.1], by rw [E.out.2.2.2.1]; exact RowI.nil _ _ _ _ _, by rw [E.out.2.2.2.2]; exact RowB.nil _ _ _ _ _, ?_⟩
    exact ((((hb03.setCell (by simp; omega) _).setCell (by simp; omega) _).setCell (by simp; omega) _).setCell (by simp; omega) _).setCell (by simp; omega) _
  subst hF0
  by_cases hn : 0 ≤ num ∧ num ≤ 400
  case neg =>
    have E := hid (ft_bad (num := num) (M := M) (ft_range HF.out.symm (by unfold ftBad; omega)) (by omega))
    go_wp2_with fail
    refine (l1In_is num 0 400 false _ (decide_eq_false hn)).mono ?_
    rintro e w2' ⟨rfl, rfl⟩
    go_wp2_with fail
    refine (l3Bad_res 3 _).mono ?_
    rintro e w3 ⟨rfl, hb3⟩
    have hb03 := hb.trans (hb3.mono hb.size)
    replace rb : Blk w3 (w.heap.size + 2) #[.int .i64 0, .slice none 0 0, .int .i64 0, .int .i64 0, .slice none 0 0] 32 := (hb3.block _ rb.lt).trans rb
    have d0 := rb.cell 0
    have d1 := rb.cell 1
    have d2 := rb.cell 2
    have d3 := rb.cell 3
    have d4 := rb.cell 4
    have f0 := rb.frozen 0
    have f1 := rb.frozen 1
    have f2 := rb.frozen 2
    have f3 := rb.frozen 3
    have f4 := rb.frozen 4
    simp at d0 d1 d2 d3 d4
    clear rb
    go_wp2
    refine bodyPost_ret (v := .agg #[.int .i64 3, .slice none 0 0, .int .i64 0, .int .i64 0, .slice none 0 0]) (by simp [results, Try.results14, go_sem, d0, d1, d2, d3, d4]) rfl ⟨.slice none 0 0, .slice none 0 0, by rw [E.out.1, E.out.2.1, E.out.2.2.1], by rw [E.out.2.2.2.1]; exact RowI.nil _ _ _ _ _, by rw [E.out.2.2.2.2]; exact RowB.nil _ _ _ _ _, ?_⟩
    exact ((((hb03.setCell (by simp; omega) _).setCell (by simp; omega) _).setCell (by simp; omega) _).setCell (by simp; omega) _).setCell (by simp; omega) _
  by_cases hM : 1 ≤ M ∧ M ≤ 400
  case neg =>
    have E := hid (ft_bad (num := num) (M := M) (ft_range HF.out.symm (by unfold ftBad; omega)) (by omega))
    go_wp2_with fail
    refine (l1In_is num 0 400 true _ (decide_eq_true hn)).mono ?_
    rintro e w2' ⟨rfl, rfl⟩
    go_wp2_with fail
    refine (l1In_is M 1 400 false _ (decide_eq_false hM)).mono ?_
    rintro e w2' ⟨rfl, rfl⟩
    go_wp2_with fail
    refine (l3Bad_res 3 _).mono ?_
    rintro e w3 ⟨rfl, hb3⟩
    have hb03 := hb.trans (hb3.mono hb.size)
    replace rb : Blk w3 (w.heap.size + 2) #[.int .i64 0, .slice none 0 0, .int .i64 0, .int .i64 0, .slice none 0 0] 32 := (hb3.block _ rb.lt).trans rb
    have d0 := rb.cell 0
    have d1 := rb.cell 1
    have d2 := rb.cell 2
    have d3 := rb.cell 3
    have d4 := rb.cell 4
    have f0 := rb.frozen 0
    have f1 := rb.frozen 1
    have f2 := rb.frozen 2
    have f3 := rb.frozen 3
    have f4 := rb.frozen 4
    simp at d0 d1 d2 d3 d4
    clear rb
    go_wp2
    refine bodyPost_ret (v := .agg #[.int .i64 3, .slice none 0 0, .int .i64 0, .int .i64 0, .slice none 0 0]) (by simp [results, Try.results14, go_sem, d0, d1, d2, d3, d4]) rfl ⟨.slice none 0 0, .slice none 0 0, by rw [E.out.1, E.out.2.1, E.out.2.2.1], by rw [E.out.2.2.2.1]; exact RowI.nil _ _ _ _ _, by rw [E.out.2.2.2.2]; exact RowB.nil _ _ _ _ _, ?_⟩
    exact ((((hb03.setCell (by simp; omega) _).setCell (by simp; omega) _).setCell (by simp; omega) _).setCell (by simp; omega) _).setCell (by simp; omega) _
  obtain ⟨hok, hm4⟩ := asked_ok HF.out.symm
  have E := hid (ft_good (num := num) (M := M) HF.out.symm (by unfold ftBad; omega))
  have hu1 := hok.u1
  obtain ⟨U, rfl⟩ : ∃ U : Nat, u = (U : Int) := ⟨u.toNat, by omega⟩
  obtain ⟨N, rfl⟩ : ∃ N : Nat, num = (N : Int) := ⟨num.toNat, by omega⟩
  obtain ⟨K, rfl⟩ : ∃ K : Nat, M = (K : Int) := ⟨M.toNat, by omega⟩
  rw [Int.toNat_natCast, Int.toNat_natCast] at E
  have CS : Hid _ := fun w' hc' ha' hp' => l3Fetch_any (w.heap.size + 1) (U : Int) z a n ca bs p m cp xs U N K w' hc' ha' hp' hok rfl h1 hm hmc HCM.out (by omega) (by omega) (by omega)
  obtain ⟨Y, hY⟩ : ∃ Y, Y = ftB U bs xs N := ⟨_, rfl⟩
  rw [← hY] at E CS
  obtain ⟨Q, hQ⟩ : ∃ Q, Q = ftQ z bs (N : Int) Y := ⟨_, rfl⟩
  rw [← hQ] at E CS
  clear hok hQ hY hu1
  go_wp2_with fail
  refine (l1In_is (N : Int) 0 400 true _ (decide_eq_true hn)).mono ?_
  rintro e w2' ⟨rfl, rfl⟩
  go_wp2_with fail
  refine (l1In_is (K : Int) 1 400 true _ (decide_eq_true hM)).mono ?_
  rintro e w2' ⟨rfl, rfl⟩
  go_wp2_with fail
  refine Calls.mono (CS.out _ (by simpa using qf) (HA.out.below (by first | exact hb | exact hb.drew)) (HP.out.below (by first | exact hb | exact hb.drew))) ?_
  rintro e w3 ⟨v3, v4, rfl, hy3, hr3, hb3⟩
  obtain ⟨y3, k3, rfl, -, -⟩ := hy3.shape
  obtain ⟨a3, c3, rfl, -, -⟩ := hr3.shape
  have hb03 := hb.trans (hb3.mono hb.size)
  have hlt := rb.lt
  have hz3 := hb3.size
  have n3 : Below w3.heap.size w3 (w3.alloc (Obj.cells #[Value.int .i64 U, Value.int .i64 z, Value.slice a3 Q.length c3] 26)) := (Below.refl _ _).alloc (Nat.le_refl _) _
  replace rb : Blk w3 (w.heap.size + 2) #[.int .i64 0, .slice none 0 0, .int .i64 0, .int .i64 0, .slice none 0 0] 32 := (hb3.block _ rb.lt).trans rb
  have rb4 := rb.alloc (Obj.cells #[Value.int .i64 U, Value.int .i64 z, Value.slice a3 Q.length c3] 26)
  have HY3 := hid (RowI.below hy3 n3)
  have HR3 := hid (RowB.below hr3 n3)
  have hb4 := hb03.alloc (by omega) (Obj.cells #[Value.int .i64 U, Value.int .i64 z, Value.slice a3 Q.length c3] 26)
  have HB4 := hid hb4
  clear hy3 hr3 hb3 CS n3 hb4 rb
  have rb := rb4
  clear rb4
  have d0 := rb.cell 0
  have d1 := rb.cell 1
  have d2 := rb.cell 2
  have d3 := rb.cell 3
  have d4 := rb.cell 4
  have f0 := rb.frozen 0
  have f1 := rb.frozen 1
  have f2 := rb.frozen 2
  have f3 := rb.frozen 3
  have f4 := rb.frozen 4
  simp at d0 d1 d2 d3 d4
  clear rb
  have hg5 : ∀ (W : World) x0 x1 x2 x3 x4, W.grownBy (((((W.setCell ⟨w.heap.size + 2, 0, none⟩ x0).setCell ⟨w.heap.size + 2, 1, none⟩ x1).setCell ⟨w.heap.size + 2, 2, none⟩ x2).setCell ⟨w.heap.size + 2, 3, none⟩ x3).setCell ⟨w.heap.size + 2, 4, none⟩ x4) (some (w.heap.size + 2)) := fun W x0 x1 x2 x3 x4 => grownT (grownT (grownT (grownT (set_grown _ _ _ _) (set_grown _ _ _ _)) (set_grown _ _ _ _)) (set_grown _ _ _ _)) (set_grown _ _ _ _)
  have HG5 := hid hg5
  clear hg5
  go_wp2
  refine bodyPost_ret (v := .agg #[.int .i64 0, .slice y3 Y.length k3, .int .i64 U, .int .i64 z, .slice a3 Q.length c3]) (by simp [results, Try.results14, go_sem, d0, d1, d2, d3, d4]) rfl ⟨.slice y3 Y.length k3, .slice a3 Q.length c3, by rw [E.out.1, E.out.2.1, E.out.2.2.1], ?_, ?_, ?_⟩
  · rw [E.out.2.2.2.1]
    have hq := RowI.chg HY3.out (Chg.one (HG5.out _ (.int .i64 0) (.slice y3 Y.length k3) (.int .i64 U) (.int .i64 z) (.slice a3 Q.length c3))) (.inr (by omega))
    exact hq.mono (by omega) (by simp [World.setCell])
  · rw [E.out.2.2.2.2]
    have hq := RowB.chg HR3.out (Chg.one (HG5.out _ (.int .i64 0) (.slice y3 Y.length k3) (.int .i64 U) (.int .i64 z) (.slice a3 Q.length c3))) (.inr (by omega))
    exact hq.mono (by omega) (by simp [World.setCell])
  · exact ((((HB4.out.setCell (by simp; omega) _).setCell (by simp; omega) _).setCell (by simp; omega) _).setCell (by simp; omega) _).setCell (by simp; omega) _
end Go.Proofs.Ytckkkhabjfbngaa

namespace Go.Proofs.Ytckkkhabjfbngaa
set_option linter.unusedVariables false

theorem ft_zero {u z : Int} {bs : List Bk} {xs : List Int} {num M : Int} (h : ftCode u z bs xs num M = 0) : OkC u z bs := by
  unfold ftCode at h
  by_cases q : asked u z bs xs.length ≠ 0
  · rw [if_pos q] at h; exact absurd h q
  · exact (asked_ok (n := xs.length) (Decidable.not_not.1 q)).1

theorem ftR_len (u z : Int) (bs : List Bk) (xs : List Int) (num M : Int) : (ftR u z bs xs num M).length ≤ 400 := by
  unfold ftR
  split
  · rename_i h
    have hok := ft_zero h
    have h1 := hok.u1
    have h2 := hok.u2
    have := ftB_len (U := u.toNat) (Z := z) (by rw [Int.toNat_of_nonneg (by omega)]; exact hok) xs num.toNat
    omega
  · simp

theorem ftS_len (u z : Int) (bs : List Bk) (xs : List Int) (num M : Int) : ((ftS u z bs xs num M).length : Int) + byB (ftS u z bs xs num M) ≤ 1000000 := by
  unfold ftS
  split
  · rename_i h
    have hok := ft_zero h
    have h1 := hok.u1
    have h2 := hok.u2
    have h3 := ftB_len (U := u.toNat) (Z := z) (by rw [Int.toNat_of_nonneg (by omega)]; exact hok) xs num.toNat
    have h4 := ftQ_bd z bs num (ftB u.toNat bs xs num.toNat)
    have h5 := okC_byB hok
    have h6 := hok.len
    have h7 := hok.z2
    omega
  · simp [byB]
end Go.Proofs.Ytckkkhabjfbngaa
