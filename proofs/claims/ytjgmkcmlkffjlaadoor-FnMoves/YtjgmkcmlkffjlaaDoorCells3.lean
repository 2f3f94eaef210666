/-
  Contracts of CellsOf and WidthOf: the program's.
-/
import Derived.Test.YtjgmkcmlkffjlaaDoorShown2
import Derived.Test.YtjgmkcmlkffjlaaDoorCells2
namespace Go.Proofs.YtjgmkcmlkffjlaaDoor
open Go.RowKit
set_option linter.unusedVariables false

set_option maxRecDepth 10000 in
set_option maxHeartbeats 1600000 in
theorem implCellsOf_any (a : Option Addr) (n ca : Nat) (xs : List Int) (w : World) (ha : Rd .u8 w a n xs) (hB : Bytes xs) (h1 : n ≤ 1073741824) (hca : n ≤ ca) (hcm : ca ≤ maxLen) :
    Calls Tryd.prog 59 #[.slice a n ca] w fun e w' => ∃ v, e = .returned (.agg #[.int .i64 (cellsCode xs), v]) ∧ OwnR cellE 3 113 w' w.heap.size v (cellsRes xs).length (cellsRes xs) ∧ Below w.heap.size w w' := by
  obtain ⟨i0, hi, hz0, hz1, hz2⟩ := info_parts infoC1
  have hlen := ha.1
  have HM : Hid _ := hcm
  have HCA : Hid _ := hca
  clear hcm hca
  have B1 : ∀ o1, Below w.heap.size w (w.alloc o1) := fun o1 => (Below.refl _ _).alloc (Nat.le_refl _) o1
  by_cases hn : n ≤ 400
  · have e1 : cellsCode xs = 0 := by unfold cellsCode; rw [ha.1, if_neg (by omega)]
    have e2 : cellsRes xs = cellsAll xs := by unfold cellsRes; rw [ha.1, if_neg (by omega)]
    rw [e1, e2]
    clear e1 e2
    go_enter Tryd.func59, Tryd.ntmps59
    go_wp2
    go_loopw [3, 4] (fun v k wr => ∃ (i f : Nat) (out : List C3), i ≤ n ∧ n ≤ i + f ∧ out.length ≤ 4 * i ∧ k = .int .i64 i ∧ cellsF xs f i out = cellsAll xs ∧ OwnR cellE 3 113 wr (w.heap.size + 1) v out.length out ∧ Below (w.heap.size + 1) (w.alloc (.cells #[.int .i64 0, .slice none 0 0] 107)) wr) (fun _ k _ => n - (intOf k).toNat)
    case atStart => exact ⟨0, n, [], by omega, by omega, by simp, rfl, by unfold cellsAll; rw [hlen], OwnR.nil _ _ _ _ _, Below.refl _ _⟩
    case round =>
      obtain ⟨i, f, out, hin, hf, hol, rfl, hres, ho, hb⟩ := hrel
      have hz : w.heap.size + 1 ≤ wr.heap.size := by have := hb.size; simpa using this
      have hb0 : Below w.heap.size w wr := (B1 _).trans (hb.mono (Nat.le_succ _))
      have HR : Hid _ := hres
      clear hres
      by_cases hlt : i < n
      · have hlt' : (i : Int) < (n : Int) := by omega
        obtain ⟨f', rfl⟩ : ∃ f', f = f' + 1 := ⟨f - 1, by omega⟩
        have hstep := cellsF_step (xs := xs) (f := f') (i := i) (out := out) (by omega)
        have sn := shownN_bd hB (i := i) (by omega)
        have sl := shownL_len xs i out.length
        have sb := shownL_bd hB i out.length
        rw [HR.out] at hstep
        have HS : Hid _ := hstep
        clear hstep HR
        have C := shownAt_any a n ca i out.length i out.length rfl rfl xs wr (ha.below hb0) hB (by omega) hlt (by omega) HCA.out HM.out
        generalize shownL xs i out.length = L at *
        generalize shownN xs i = u at *
        have HC : Hid _ := C
        have HB : Hid _ := sb
        clear C sb
        obtain ⟨av, cap, hv, _⟩ := ho.rd cellE_len
        subst hv
        obtain ⟨u1, u2, u3⟩ := sn
        obtain ⟨l1, l2⟩ := sl
        go_wp2_with fail
        refine Calls.mono HC.out ?_
        rintro e w1 ⟨vL, rfl, hoL, hb1⟩
        have ho1 := ho.below hb1
        have hb01 := hb.trans (hb1.mono hz)
        obtain ⟨aL, capL, hvL, hrL, _⟩ := hoL.rd
        subst hvL
        clear ho hb hb1 hb0
        obtain ⟨wo, rfl⟩ : ∃ wo : World, wo = wr := ⟨_, rfl⟩
        go_wp2_with fail
        go_loopw [3, 27] (fun v k wi => ∃ (j : Nat), j ≤ L.length ∧ k = .int .i64 j ∧ OwnR cellE 3 113 wi (w.heap.size + 1) v (out.length + j) (out ++ (L.take j).map fun c => (c, (i : Int), (u : Int))) ∧ Own .u16 126 wi wo.heap.size (.slice aL L.length capL) L.length L ∧ Below (w.heap.size + 1) (w.alloc (.cells #[.int .i64 0, .slice none 0 0] 107)) wi) (fun _ k _ => L.length - (intOf k).toNat)
        case atStart => exact ⟨0, by omega, rfl, by simpa using ho1, hoL, hb01⟩
        case round =>
          obtain ⟨j, hj, rfl, hoj, hoL, hbj⟩ := hrel
          obtain ⟨av2, cap2, hv2, _⟩ := hoj.rd cellE_len
          subst hv2
          have hzj : w.heap.size + 1 ≤ wr.heap.size := by have := hbj.size; simpa using this
          by_cases hjl : j < L.length
          · obtain ⟨aL', capL', hvL, hrL, _⟩ := hoL.rd
            obtain ⟨rfl, rfl⟩ : aL = aL' ∧ capL = capL' := by simpa using hvL
            obtain ⟨bL, oL, rfl, hcL⟩ := hrL.at hjl
            have hcj := hcL j hjl
            have hmem : L.getD j 0 ∈ L := by
              rw [List.getD_eq_getElem?_getD, List.getElem?_eq_getElem hjl, Option.getD_some]
              exact List.getElem_mem hjl
            have hxb := HB.out _ hmem
            have htk : L.take (j + 1) = L.take j ++ [L.getD j 0] := by
              rw [List.take_succ_eq_append_getElem hjl, List.getD_eq_getElem?_getD, List.getElem?_eq_getElem hjl, Option.getD_some]
            have HT : Hid _ := htk
            clear htk hcL hrL hvL hmem
            generalize L.getD j 0 = x at *
            obtain ⟨x1, x2⟩ := hxb
            obtain ⟨oj, hoe⟩ : ∃ oj, oj = out ++ (L.take j).map fun c => (c, (i : Int), (u : Int)) := ⟨_, rfl⟩
            rw [← hoe] at hoj
            have HO : Hid _ := hoe
            clear hoe
            have hjl' : (j : Int) < (L.length : Int) := by omega
            go_wp2_with (at_builtin; refine wpList_append_own _ rfl _ _ 94 rfl (w.heap.size + 1) 113 i0 (.agg #[.int .i64 0, .int .i64 0, .int .i64 0]) 3 24 Tryd.underlying94 hi hz0 hz1 hz2 rfl (by decide) _ _ _ rfl (hoj.alloc _).2 ⟨wr.heap.size, 0, none⟩ 1 1 (cellE (x, (i : Int), (u : Int))) rfl rfl (cells_new wr #[.int .i64 x, .int .i64 i, .int .i64 u] 113) (cellE_one _) (by unfold maxLen; omega) (by omega) (by simp; omega) ?_)
            intro v' w3 ho4 hg4 _
            have lo := hoj.lt
            have hb3 := (hbj.alloc hzj (.cells #[.int .i64 x, .int .i64 i, .int .i64 u] 113)).grown hg4 (by simp; omega) (fun k hk => (lo k hk).1)
            have ho5 := ownR_snoc hoj.1 ho4
            rw [HO.out, List.append_assoc] at ho5
            have ho6 : OwnR cellE 3 113 w3 (w.heap.size + 1) v' (out.length + (j + 1)) (out ++ (L.take (j + 1)).map fun c => (c, (i : Int), (u : Int))) := by
              rw [HT.out, List.map_append]
              exact ho5
            have hoL3 : Own .u16 126 w3 wo.heap.size (.slice (some ⟨bL, oL, none⟩) L.length capL) L.length L := by
              have hap := rows_apart (World.ownsRow.alloc hoL (.cells #[.int .i64 x, .int .i64 i, .int .i64 u] 113)) (hoj.alloc (.cells #[.int .i64 x, .int .i64 i, .int .i64 u] 113)).2 (by decide)
              exact Own.kept (World.ownsRow.alloc hoL _) hg4 hap
            clear ho4 hg4 ho5 hoj hbj lo hoL
            go_wp2
            go_roundw
            case rel => exact ⟨j + 1, by omega, by go_num, ho6, hoL3, hb3⟩
            case measure => simp [intOf]; omega
          · obtain rfl : j = L.length := by omega
            rw [List.take_length] at hoj
            have hl' : (out ++ L.map fun c => (c, (i : Int), (u : Int))).length = out.length + L.length := by simp
            have HL : Hid _ := hl'
            clear hl'
            go_wp2
            go_roundw
            case rel => exact ⟨i + u, f', out ++ L.map fun c => (c, (i : Int), (u : Int)), by omega, by omega, by rw [HL.out]; omega, by go_num, HS.out.symm, by rw [HL.out]; exact hoj, hbj⟩
            case measure => simp [intOf]; omega
      · have hcl := HR.out
        rw [cellsF_end _ _ _ (by omega)] at hcl
        have HCL : Hid _ := hcl
        clear hcl HR
        obtain ⟨av, cap, hv, _⟩ := ho.rd cellE_len
        subst hv
        have hc0 : wr.cell? ⟨w.heap.size, 0, none⟩ = some (.int .i64 0) := (hb.cell (p := ⟨w.heap.size, 0, none⟩) (by simp)).trans (by simp)
        have hc1 : wr.cell? ⟨w.heap.size, 1, none⟩ = some (.slice none 0 0) := (hb.cell (p := ⟨w.heap.size, 1, none⟩) (by simp)).trans (by simp)
        have hf0 : wr.frozen? ⟨w.heap.size, 0, none⟩ = false := (hb.frozen (p := ⟨w.heap.size, 0, none⟩) (by simp)).trans (by simp)
        have hf1 : wr.frozen? ⟨w.heap.size, 1, none⟩ = false := (hb.frozen (p := ⟨w.heap.size, 1, none⟩) (by simp)).trans (by simp)
        go_wp2
        refine bodyPost_ret (v := .agg #[.int .i64 0, .slice av out.length cap]) (by simp [results, Tryd.results59, go_sem, hc0, hc1]) rfl ⟨.slice av out.length cap, rfl, ?_, ?_⟩
        · rw [← HCL.out]
          exact ((ho.setBelow (by simp) _).setBelow (by simp) _).up (by simp)
        · exact (hb0.setCell (Nat.le_refl _) _).setCell (Nat.le_refl _) _
  · have e1 : cellsCode xs = 2 := by unfold cellsCode; rw [ha.1, if_pos (by omega)]
    have e2 : cellsRes xs = [] := by unfold cellsRes; rw [ha.1, if_pos (by omega)]
    rw [e1, e2]
    clear e1 e2
    go_enter Tryd.func59, Tryd.ntmps59
    go_wp2
    exact bodyPost_ret (v := .agg #[.int .i64 2, .slice none 0 0]) (by simp [results, Tryd.results59, go_sem]) rfl ⟨_, rfl, OwnR.nil _ _ _ _ _, B1 _⟩

set_option maxHeartbeats 400000 in
theorem implWidthOf_any (a : Option Addr) (n ca : Nat) (xs : List Int) (w : World) (ha : Rd .u8 w a n xs) (hB : Bytes xs) (h1 : n ≤ 1073741824) (hca : n ≤ ca) (hcm : ca ≤ maxLen) :
    Calls Tryd.prog 45 #[.slice a n ca] w fun e w' => e = .returned (widthVal xs) ∧ Below w.heap.size w w' := by
  have B1 : ∀ o1, Below w.heap.size w (w.alloc o1) := fun o1 => (Below.refl _ _).alloc (Nat.le_refl _) o1
  have C := fun o1 => implCellsOf_any a n ca xs _ (ha.below (B1 o1)) hB h1 hca hcm
  have HC : Hid _ := C
  clear C hca hcm
  unfold widthVal
  generalize cellsCode xs = cd at *
  generalize cellsRes xs = cs at *
  go_enter Tryd.func45, Tryd.ntmps45
  go_wp2_with fail
  refine Calls.mono (HC.out _) ?_
  rintro e w1 ⟨v, rfl, ho, hb⟩
  obtain ⟨av, cap, hv, _⟩ := ho.rd cellE_len
  subst hv
  have hc0 : w1.cell? ⟨w.heap.size, 0, none⟩ = some (.int .i64 0) := (hb.cell (p := ⟨w.heap.size, 0, none⟩) (by simp)).trans (by simp)
  have hc1 : w1.cell? ⟨w.heap.size, 1, none⟩ = some (.int .i64 0) := (hb.cell (p := ⟨w.heap.size, 1, none⟩) (by simp)).trans (by simp)
  have hf0 : w1.frozen? ⟨w.heap.size, 0, none⟩ = false := (hb.frozen (p := ⟨w.heap.size, 0, none⟩) (by simp)).trans (by simp)
  have hf1 : w1.frozen? ⟨w.heap.size, 1, none⟩ = false := (hb.frozen (p := ⟨w.heap.size, 1, none⟩) (by simp)).trans (by simp)
  have hz1 : w.heap.size < w1.heap.size := by have := hb.size; simp at this; omega
  have hb0 := below_slot hb
  clear hb ho
  go_wp2
  refine bodyPost_ret (v := .agg #[.int .i64 cd, .int .i64 cs.length]) (by simp [results, Tryd.results45, go_sem, hc0, hc1, hz1]) rfl ⟨rfl, ?_⟩
  exact ((hb0.setCell (Nat.le_refl _) _).setCell (Nat.le_refl _) _).alloc (by simp [World.setCell]; omega) _
end Go.Proofs.YtjgmkcmlkffjlaaDoor
