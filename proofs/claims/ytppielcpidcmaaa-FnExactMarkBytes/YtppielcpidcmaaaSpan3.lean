/-
  Chapter 9: MarkBytes, of the program.
-/
import Derived.Test.YtppielcpidcmaaaSpan1
import Derived.Test.YtppielcpidcmaaaAppend
import Derived.Test.YtppielcpidcmaaaJoin
namespace Go.Proofs.Ytppielcpidcmaaa
open Go.RowKit
set_option linter.unusedVariables false
set_option linter.unusedSimpArgs false

theorem info64v : (Try.prog.info? 2).map (fun i => (i.zero, i.size, i.bytes)) = some (some (.int .i64 0), 1, 8) := by kernel_rfl

theorem lit9_rd {k : IntKind} {e : TypeId} (w : World) (zs : List Int) (n : Nat) (hn : zs.length = n) (hm : n ≤ maxLen) : Rd k (w.alloc (.cells (zs.map (Value.int k)).toArray e)) (some ⟨w.heap.size, 0, none⟩) n zs := by
  have := own_lit (k := k) (e := e) w (zs.map (Value.int k)).toArray n w.heap.size zs (by simp) hn (Nat.le_refl _) hm
  obtain ⟨a, c, hv, hr, _⟩ := this.rd
  simp only [Value.slice.injEq] at hv
  rw [hv.1, ← hn]
  exact hr

theorem Blk.of9 {w W : World} {B : Nat} {cs : Array Value} {t : TypeId} (h : Blk W B cs t) (hb : Below W.heap.size W w) : Blk w B cs t := (hb.block B h.lt).trans h

theorem mb_ends (c : Int) (v : Value) (w w1 : World) (hb1 : Below (w.alloc (.cells #[.int .i64 0, .slice none 0 0] 49)).heap.size (w.alloc (.cells #[.int .i64 0, .slice none 0 0] 49)) w1) :
    w1.cell? ⟨w.heap.size, 0, none⟩ = some (.int .i64 0) ∧ w1.cell? ⟨w.heap.size, 1, none⟩ = some (.slice none 0 0) ∧ w1.frozen? ⟨w.heap.size, 0, none⟩ = false ∧ w1.frozen? ⟨w.heap.size, 1, none⟩ = false := by
  have rb := Blk.of9 (Blk.new w #[.int .i64 0, .slice none 0 0] 49) hb1
  have c0 := rb.cell 0
  have c1 := rb.cell 1
  simp at c0 c1
  exact ⟨c0, c1, rb.frozen 0, rb.frozen 1⟩

set_option maxHeartbeats 3200000 in
set_option maxRecDepth 20000 in
theorem implMarkBytes_any (a : Option Addr) (n ca : Nat) (xs : List L2) (z : Int) (w : World) (ha : RdR lineE 2 w a n xs) (hn : n ≤ 1048576) :
    Calls Try.prog 21 #[.slice a n ca, .int .i64 z] w fun e w' => ∃ v, e = .returned (.agg #[.int .i64 (mbCode xs z), v]) ∧ RowI .i64 2 w' w.heap.size w'.heap.size v (mbRes xs z).length (mbRes xs z) ∧ Below w.heap.size w w' := by
  have B1 : ∀ o, Below w.heap.size w (w.alloc o) := fun o => (Below.refl _ _).alloc (Nat.le_refl _) o
  have HCF := hid (fun w' h => implSpansFault_any a n ca xs w' h hn)
  by_cases hf : spFault xs = 0
  case neg =>
    have e1 : mbCode xs z = spFault xs := by rw [mbCode, if_pos hf]
    have e2 : mbRes xs z = [] := by rw [mbRes, e1, if_neg hf]
    rw [e1, e2]
    generalize spFault xs = T at *
    have hf' : (T == 0) = false := by simpa using hf
    clear e1 e2 hf
    go_enter Try.func21, Try.ntmps21
    go_wp2_with fail
    refine (HCF.out _ (ha.below (B1 _))).mono ?_
    rintro e w1 ⟨rfl, hb1⟩
    obtain ⟨c0, c1, f0, f1⟩ := mb_ends 0 (.int .i64 0) w w1 hb1
    have HB := hid ((B1 _).trans (hb1.mono (by simp)))
    clear hb1
    go_wp2
    refine bodyPost_ret (v := .agg #[.int .i64 T, .slice none 0 0]) (by simp [results, Try.results21, go_sem, c0, c1]) rfl ⟨_, rfl, RowI.nil _ _ _ _ _, ?_⟩
    exact (HB.out.setCell (by show w.heap.size ≤ w.heap.size; omega) _).setCell (by show w.heap.size ≤ w.heap.size; omega) _
  by_cases hz : z < 0 ∨ 400 < z
  case pos =>
    have e1 : mbCode xs z = 3 := by rw [mbCode, if_neg (by simpa using hf), if_pos hz]
    have e2 : mbRes xs z = [] := by rw [mbRes, e1, if_neg (by omega)]
    rw [e1, e2]
    rw [hf] at HCF
    have hz' : (¬ z < 0 → 400 < z) := by omega
    clear e1 e2 hf
    by_cases hz0 : z < 0
    case pos =>
      clear hz hz'
      go_enter Try.func21, Try.ntmps21
      go_wp2_with fail
      refine (HCF.out _ (ha.below (B1 _))).mono ?_
      rintro e w1 ⟨rfl, hb1⟩
      obtain ⟨c0, c1, f0, f1⟩ := mb_ends 0 (.int .i64 0) w w1 hb1
      have HB := hid ((B1 _).trans (hb1.mono (by simp)))
      clear hb1
      go_wp2
      refine bodyPost_ret (v := .agg #[.int .i64 3, .slice none 0 0]) (by simp [results, Try.results21, go_sem, c0, c1]) rfl ⟨_, rfl, RowI.nil _ _ _ _ _, ?_⟩
      exact (HB.out.setCell (by show w.heap.size ≤ w.heap.size; omega) _).setCell (by show w.heap.size ≤ w.heap.size; omega) _
    have hz4 := hz' hz0
    clear hz hz'
    go_enter Try.func21, Try.ntmps21
    go_wp2_with fail
    refine (HCF.out _ (ha.below (B1 _))).mono ?_
    rintro e w1 ⟨rfl, hb1⟩
    obtain ⟨c0, c1, f0, f1⟩ := mb_ends 0 (.int .i64 0) w w1 hb1
    have HB := hid ((B1 _).trans (hb1.mono (by simp)))
    clear hb1
    go_wp2
    refine bodyPost_ret (v := .agg #[.int .i64 3, .slice none 0 0]) (by simp [results, Try.results21, go_sem, c0, c1]) rfl ⟨_, rfl, RowI.nil _ _ _ _ _, ?_⟩
    exact (HB.out.setCell (by show w.heap.size ≤ w.heap.size; omega) _).setCell (by show w.heap.size ≤ w.heap.size; omega) _
  obtain ⟨N, rfl⟩ : ∃ N : Nat, z = (N : Int) := ⟨z.toNat, by omega⟩
  have e1 : mbCode xs (N : Int) = 0 := by rw [mbCode, if_neg (by simpa using hf), if_neg (by omega)]
  have e2 : mbRes xs (N : Int) = spGo (N : Int) xs := by rw [mbRes, e1, if_pos rfl, spGo_is hf]; rfl
  rw [e1, e2]
  have HOKA := hid (fun j c (hj : xs[j]? = some c) => spOk_at (spFault_zero hf).2 hj)
  have HLEN := hid (fun k => spGo_len (n := N) hf k)
  have HN := hid ha.1
  rw [hf] at HCF
  have hN4 : N ≤ 400 := by omega
  have hz0 : ¬ (N : Int) < 0 := by omega
  have hz4 : ¬ 400 < (N : Int) := by omega
  clear e1 e2 hf hz
  obtain ⟨i0, hi, hi0, hi1, hi2⟩ := info_parts info64v
  obtain ⟨W0, hW0⟩ : ∃ W0, W0 = w.alloc (.cells #[.int .i64 0, .slice none 0 0] 49) := ⟨_, rfl⟩
  have hw0 : W0.heap.size = w.heap.size + 1 := by rw [hW0]; simp
  have HW0 := hid hW0
  have HW1 := hid hw0
  have HB0 : Hid (Below w.heap.size w W0) := by rw [hW0]; exact hid (B1 _)
  clear hw0 hW0
  go_enter Try.func21, Try.ntmps21
  go_wp2_with fail
  refine (HCF.out _ (ha.below (B1 _))).mono ?_
  rintro e w1 ⟨rfl, hb1⟩
  have HBW : Hid (Below W0.heap.size W0 w1) := by rw [HW0.out]; exact hid hb1
  clear hb1
  go_wp2
  go_loopw [6, 25] (fun v i wr => ∃ k : Nat, k ≤ n ∧ i = .int .i64 k ∧ Hid (Own .i64 2 wr W0.heap.size v (spGo (N : Int) (xs.take k)).length (spGo (N : Int) (xs.take k))) ∧ Hid (Below W0.heap.size W0 wr)) (fun _ i _ => n - (intOf i).toNat)
  case atStart => exact ⟨0, Nat.zero_le _, rfl, hid (Own.nil _ _), HBW⟩
  case round =>
    obtain ⟨k, hk, rfl, HO, HBK⟩ := hrel
    by_cases hlt : k < n
    · have hlt' : (k : Int) < (n : Int) := by omega
      obtain ⟨b0, o0, c, ea, hx, hc⟩ := (ha.below (HB0.out.trans (HBK.out.mono HB0.out.size))).at hlt
      subst ea
      have hgood := HOKA.out k c hx
      have HSU := hid (spGo_succ (n := (N : Int)) hx)
      have HLK := hid (HLEN.out k)
      obtain ⟨d0, d1⟩ := two hc
      obtain ⟨x, y⟩ := c
      simp only at d0 d1 hgood
      obtain ⟨g1, g2, g3, -⟩ := hgood
      obtain ⟨mn, hmn⟩ : ∃ mn, mn = if y < (N : Int) then y else (N : Int) := ⟨_, rfl⟩
      have hmin : min y (N : Int) = mn := by rw [hmn]; split <;> omega
      have hmn0 : mn ≤ 400 := by rw [hmn]; split <;> omega
      have HTO : Hid (spTo (N : Int) (x, y) = (mn - x).toNat) := hid (by rw [hmn]; rfl)
      have HMIN := hid hmin
      have HX1 := hid (Blk.new wr #[.int .i64 x, .int .i64 y] 91)
      have HOA : Hid (Own .i64 2 (wr.alloc (.cells #[.int .i64 x, .int .i64 y] 91)) W0.heap.size _ _ _) := hid (World.ownsRow.alloc HO.out _)
      have HBA : Hid (Below W0.heap.size W0 (wr.alloc (.cells #[.int .i64 x, .int .i64 y] 91))) := hid (HBK.out.alloc HBK.out.size _)
      have hbxl : W0.heap.size ≤ wr.heap.size := HBK.out.size
      obtain ⟨W2, hW2⟩ : ∃ W2, W2 = wr.alloc (.cells #[.int .i64 x, .int .i64 y] 91) := ⟨_, rfl⟩
      rw [← hW2] at HX1 HOA HBA
      clear hx hc hmn hmin HO HBK
      obtain ⟨wo, rfl⟩ : ∃ wo : World, wo = wr := ⟨_, rfl⟩
      go_wp2_with fail
      rw [← hW2]
      have X0 : W2.cell? ⟨wo.heap.size, 0, none⟩ = some (.int .i64 x) := by have := HX1.out.cell 0; simpa using this
      clear hW2 d0 d1
      generalize wo.heap.size = X at *
      go_wp2
      go_loopw [6, 9] (fun v i wr => ∃ (j : Nat) (P : Int), i = .int .i64 P ∧ Hid (P = x + (j : Int)) ∧ (x ≤ P ∧ P ≤ 401) ∧ Hid (j ≤ spTo (N : Int) (x, y)) ∧ Hid (Own .i64 2 wr W0.heap.size v ((spGo (N : Int) (xs.take k)) ++ upTo x j).length ((spGo (N : Int) (xs.take k)) ++ upTo x j)) ∧ Hid (Below W0.heap.size W0 wr) ∧ Hid (Blk wr X #[.int .i64 x, .int .i64 y] 91)) (fun _ i _ => 402 - (intOf i).toNat)
      case atStart => exact ⟨0, x, rfl, hid (by simp), ⟨by omega, by omega⟩, hid (Nat.zero_le _), (by rw [upTo, List.append_nil]; exact HOA), HBA, HX1⟩
      case round =>
        obtain ⟨j, P, rfl, HP, ⟨hP0, hP1⟩, HJ, HO, HB, HX⟩ := hrel
        have x1 := HX.out.cell 1
        simp at x1
        by_cases hPm : P < mn
        · have hlen : (spGo (N : Int) (xs.take k) ++ upTo x j).length ≤ 900 := by
            rw [List.length_append, upTo_len]
            have h1 := HLK.out
            have h2 := HP.out
            omega
          have HNX : Hid (spGo (N : Int) (xs.take k) ++ upTo x j ++ [P] = spGo (N : Int) (xs.take k) ++ upTo x (j + 1)) := hid (by rw [upTo, HP.out, List.append_assoc])
          have hj2 : Hid (j + 1 ≤ spTo (N : Int) (x, y)) := hid (by have := HTO.out; have := HP.out; omega)
          have hwr : IntKind.i64.wrap (P + 1) = P + 1 := by rw [IntKind.wrap_i64]; omega
          have hB2 : W0.heap.size ≤ wr.heap.size := HB.out.size
          have hne2 : ∀ v' : Value, True := fun _ => trivial
          generalize hLL : spGo (N : Int) (xs.take k) ++ upTo x j = L at *
          have HRD := hid (lit9_rd (k := .i64) (e := 2) wr [P] 1 rfl (by simp [maxLen]))
          have HOL := hid (World.ownsRow.alloc HO.out (.cells #[.int .i64 P] 2))
          go_wp2_with (first | ((with_reducible show wpList _ _ _ (({ dst := _, op := .call { callee := .builtin .min, args := #[_, _], argTypes := _ }, type := _, pos := _, after := _, guard := _ } : Oper) :: _) _ _); refine wpList_min2 _ _ _ .i64 y (N : Int) _ rfl rfl HMIN.out ?_) | (at_builtin; refine wpList_append_rd rfl _ _ 47 rfl .i64 W0.heap.size 2 i0 8 Try.underlying47 hi hi0 hi1 hi2 _ _ L rfl HOL.out (some ⟨wr.heap.size, 0, none⟩) 1 1 [P] rfl HRD.out (by simp [maxLen]; omega) (by omega) (by simp; omega) ?_))
          intro v5 w5 ho5 hg5
          have hb5 : Below W0.heap.size W0 w5 := (HB.out.alloc HB.out.size _).grown hg5 (by simp; omega) (fun j' hj' => (HOL.out.lt j' hj').1)
          have hx5 : Blk w5 X #[.int .i64 x, .int .i64 y] 91 := (HX.out.alloc _).kept hg5 (Blk.not_row (HX.out.alloc _) (by decide) HOL.out)
          rw [HNX.out] at ho5
          have hl5 : L.length + 1 = (spGo (N : Int) (xs.take k) ++ upTo x (j + 1)).length := by rw [← HNX.out]; simp
          rw [hl5] at ho5
          have HO5 := hid ho5
          have HB5 := hid hb5
          have HX5 := hid hx5
          clear ho5 hg5 hb5 hx5 hl5 hLL
          go_wp2
          go_roundw
          case rel => exact ⟨j + 1, P + 1, rfl, hid (by have := HP.out; push_cast; omega), ⟨by omega, by omega⟩, hj2, HO5, HB5, HX5⟩
          case measure => simp [intOf]; omega
        · have hjl : Hid (j = spTo (N : Int) (x, y)) := hid (by have := HTO.out; have := HP.out; have := HJ.out; omega)
          have HO2 : Hid (Own .i64 2 wr W0.heap.size _ (spGo (N : Int) (xs.take (k + 1))).length (spGo (N : Int) (xs.take (k + 1)))) := hid (by
            rw [HSU.out, spPut, ← hjl.out]
            exact HO.out)
          clear HO
          go_wp2_with ((with_reducible show wpList _ _ _ (({ dst := _, op := .call { callee := .builtin .min, args := #[_, _], argTypes := _ }, type := _, pos := _, after := _, guard := _ } : Oper) :: _) _ _); refine wpList_min2 _ _ _ .i64 y (N : Int) _ rfl rfl HMIN.out ?_)
          go_roundw
          case rel => exact ⟨k + 1, by omega, by go_num, HO2, HB⟩
          case measure => simp [intOf]; omega
    · obtain rfl : k = n := by omega
      have hall : xs.take k = xs := List.take_of_length_le (Nat.le_of_eq HN.out)
      rw [hall] at HO
      have rb := Blk.of9 (by rw [HW0.out]; exact Blk.new w #[.int .i64 0, .slice none 0 0] 49) HBK.out
      have c0 := rb.cell 0
      have c1 := rb.cell 1
      have f0 := rb.frozen 0
      have f1 := rb.frozen 1
      simp at c0 c1
      obtain ⟨va, vc, rfl, -, -⟩ := HO.out.rd
      have hwz := HW1.out
      clear rb hall
      go_wp2
      refine bodyPost_ret (v := .agg #[.int .i64 0, .slice va (spGo (N : Int) xs).length vc]) (by simp [results, Try.results21, go_sem, c0, c1]) rfl ⟨_, rfl, ?_, ?_⟩
      · refine RowI.mono (lo := W0.heap.size) (hi := wr.heap.size) ?_ (by omega) (by simp [World.setCell])
        exact RowI.setB (RowI.setB (RowI.of HO.out) (.inl (by omega)) _ _) (.inl (by omega)) _ _
      · exact ((HB0.out.trans (HBK.out.mono HB0.out.size)).setCell (by show w.heap.size ≤ w.heap.size; omega) _).setCell (by show w.heap.size ≤ w.heap.size; omega) _
end Go.Proofs.Ytppielcpidcmaaa
