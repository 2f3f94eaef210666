/-
  Contracts of the cells of a line: the specification's.
-/
import Derived.Test.YtjgmkcmlkffjlaaDoorShown1
import Derived.Test.YtjgmkcmlkffjlaaDoorHlpCA
namespace Go.Proofs.YtjgmkcmlkffjlaaDoor
open Go.RowKit
set_option linter.unusedVariables false

theorem infoC1 : (Tryd.prog.info? 113).map (fun i => (i.zero, i.size, i.bytes)) = some (some (.agg #[.int .i64 0, .int .i64 0, .int .i64 0]), 3, 24) := by kernel_rfl

theorem cellE_one (c : C3) : ∀ u ∈ cellE c, u.oneCell' = true := by
  intro u hu
  simp [cellE] at hu
  rcases hu with rfl | rfl | rfl <;> rfl

/-- A cell more behind those that are owned. -/
theorem ownR_snoc {e : TypeId} {w : World} {base : Nat} {v : Value} {m : Nat} {cs : List C3} {c : C3} (hl : cs.length = m) (h : w.ownsRow base e 3 v (m + 1) (cs.flatMap cellE ++ cellE c)) : OwnR cellE 3 e w base v (m + 1) (cs ++ [c]) :=
  ⟨by simp [hl], by rw [List.flatMap_append]; simpa using h⟩

set_option maxHeartbeats 1600000 in
theorem l1Cells_any (a : Option Addr) (n ca : Nat) (xs : List Int) (w : World) (ha : Rd .u8 w a n xs) (hB : Bytes xs) (h1 : n ≤ 400) :
    Calls Tryd.prog 51 #[.slice a n ca] w fun e w' => ∃ v, e = .returned v ∧ OwnR cellE 3 113 w' w.heap.size v (cellsAll xs).length (cellsAll xs) ∧ Below w.heap.size w w' := by
  obtain ⟨i0, hi, hz0, hz1, hz2⟩ := info_parts infoC1
  have hlen := ha.1
  go_enter Tryd.func51, Tryd.ntmps51
  go_wp2
  go_loopw [3, 4] (fun v k wr => ∃ (i f : Nat) (out : List C3), i ≤ n ∧ n ≤ i + f ∧ out.length ≤ 4 * i ∧ k = .int .i64 i ∧ cellsF xs f i out = cellsAll xs ∧ OwnR cellE 3 113 wr w.heap.size v out.length out ∧ Below w.heap.size w wr) (fun _ k _ => n - (intOf k).toNat)
  case atStart =>
    refine ⟨0, n, [], by omega, by omega, by simp, rfl, by unfold cellsAll; rw [hlen], ?_, (Below.refl _ _).alloc (Nat.le_refl _) _⟩
    have := World.ownsRow_lit (base := w.heap.size) (e := 113) (size := 3) w #[] 0 (Nat.le_refl _) (by simp [maxLen]) rfl
    exact ⟨rfl, by simpa using this⟩
  case round =>
    obtain ⟨i, f, out, hin, hf, hol, rfl, hres, ho, hb⟩ := hrel
    have HR : Hid _ := hres
    clear hres
    by_cases hlt : i < n
    · have hlt' : (i : Int) < (n : Int) := by omega
      obtain ⟨f', rfl⟩ : ∃ f', f = f' + 1 := ⟨f - 1, by omega⟩
      have hstep := cellsF_step (xs := xs) (f := f') (i := i) (out := out) (by omega)
      have sn := shownN_bd hB (i := i) (by omega)
      have sl := shownL_len xs i out.length
      rw [HR.out] at hstep
      have HS : Hid _ := hstep
      clear hstep HR
      have C := l1Shown_any a n ca i out.length i out.length rfl rfl xs wr (ha.below hb) hB (by omega) hlt (by omega)
      generalize shownL xs i out.length = L at *
      generalize shownN xs i = u at *
      have HC : Hid _ := C
      clear C
      obtain ⟨av, cap, hv, _⟩ := ho.rd cellE_len
      subst hv
      obtain ⟨u1, u2, u3⟩ := sn
      obtain ⟨l1, l2⟩ := sl
      go_wp2_with fail
      refine Calls.mono HC.out ?_
      rintro e w1 ⟨vL, rfl, hoL, hb1⟩
      have ho1 := ho.below hb1
      have hb01 := hb.trans (hb1.mono hb.size)
      obtain ⟨aL, capL, hvL, hrL, _⟩ := hoL.rd
      subst hvL
      clear ho hb hb1
      obtain ⟨wo, rfl⟩ : ∃ wo : World, wo = wr := ⟨_, rfl⟩
      go_wp2_with fail
      go_loopw [3, 7] (fun v k wi => ∃ (j : Nat), j ≤ L.length ∧ k = .int .i64 j ∧ OwnR cellE 3 113 wi w.heap.size v (out.length + j) (out ++ (L.take j).map fun c => (c, (i : Int), (u : Int))) ∧ Own .i64 2 wi wo.heap.size (.slice aL L.length capL) L.length L ∧ Below w.heap.size w wi) (fun _ k _ => L.length - (intOf k).toNat)
      case atStart => exact ⟨0, by omega, rfl, by simpa using ho1, hoL, hb01⟩
      case round =>
        obtain ⟨j, hj, rfl, hoj, hoL, hbj⟩ := hrel
        obtain ⟨av2, cap2, hv2, _⟩ := hoj.rd cellE_len
        subst hv2
        have hzj := hbj.size
        by_cases hjl : j < L.length
        · obtain ⟨aL', capL', hvL, hrL, _⟩ := hoL.rd
          obtain ⟨rfl, rfl⟩ : aL = aL' ∧ capL = capL' := by simpa using hvL
          obtain ⟨bL, oL, rfl, hcL⟩ := hrL.at hjl
          have hcj := hcL j hjl
          have htk : L.take (j + 1) = L.take j ++ [L.getD j 0] := by
            rw [List.take_succ_eq_append_getElem hjl, List.getD_eq_getElem?_getD, List.getElem?_eq_getElem hjl, Option.getD_some]
          have HT : Hid _ := htk
          clear htk hcL hrL hvL
          generalize L.getD j 0 = x at *
          obtain ⟨oj, hoe⟩ : ∃ oj, oj = out ++ (L.take j).map fun c => (c, (i : Int), (u : Int)) := ⟨_, rfl⟩
          rw [← hoe] at hoj
          have HO : Hid _ := hoe
          clear hoe
          have hjl' : (j : Int) < (L.length : Int) := by omega
          go_wp2_with (at_builtin; refine wpList_append_own _ rfl _ _ 94 rfl w.heap.size 113 i0 (.agg #[.int .i64 0, .int .i64 0, .int .i64 0]) 3 24 Tryd.underlying94 hi hz0 hz1 hz2 rfl (by decide) _ _ _ rfl (hoj.alloc _).2 ⟨wr.heap.size, 0, none⟩ 1 1 (cellE (x, (i : Int), (u : Int))) rfl rfl (cells_new wr #[.int .i64 x, .int .i64 i, .int .i64 u] 113) (cellE_one _) (by unfold maxLen; omega) (by omega) (by simp; omega) ?_)
          intro v' w3 ho4 hg4 _
          have lo := hoj.lt
          have hb3 : Below w.heap.size w w3 := (hbj.alloc hzj _).grown hg4 (by simp; omega) (fun k hk => (lo k hk).1)
          have ho5 := ownR_snoc hoj.1 ho4
          rw [HO.out, List.append_assoc] at ho5
          have ho6 : OwnR cellE 3 113 w3 w.heap.size v' (out.length + (j + 1)) (out ++ (L.take (j + 1)).map fun c => (c, (i : Int), (u : Int))) := by
            rw [HT.out, List.map_append]
            exact ho5
          have hoL3 : Own .i64 2 w3 wo.heap.size (.slice (some ⟨bL, oL, none⟩) L.length capL) L.length L := by
            have hap := rows_apart (World.ownsRow.alloc hoL (.cells #[.int .i64 x, .int .i64 i, .int .i64 u] 113)) (hoj.alloc (.cells #[.int .i64 x, .int .i64 i, .int .i64 u] 113)).2 (by decide)
            exact Own.kept (World.ownsRow.alloc hoL _) hg4 hap
          clear ho4 hg4 ho5 hoj hbj lo hoL
          go_wp2
          go_roundw
          case rel => exact ⟨j + 1, by omega, by go_num, ho6, hoL3, hb3⟩
          case measure => simp [intOf]; omega
        · obtain rfl : j = L.length := by omega
          rw [List.take_length] at hoj
          have hl' : (out ++ L.map fun c => (c, (i : Int), (u : Int))).length = out.length + L.length := by simp
          have HL : Hid _ := hl'
          clear hl'
          go_wp2
          go_roundw
          case rel => exact ⟨i + u, f', out ++ L.map fun c => (c, (i : Int), (u : Int)), by omega, by omega, by rw [HL.out]; omega, by go_num, HS.out.symm, by rw [HL.out]; exact hoj, hbj⟩
          case measure => simp [intOf]; omega
    · go_wp2
      go_ret
      have := HR.out
      rw [cellsF_end _ _ _ (by omega)] at this
      rw [← this]
      exact ⟨_, rfl, ho, hb⟩
end Go.Proofs.YtjgmkcmlkffjlaaDoor
