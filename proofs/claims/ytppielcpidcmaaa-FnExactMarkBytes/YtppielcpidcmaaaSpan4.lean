/-
  Chapter 9: MarkBytes, of the specification.
-/
import Derived.Test.YtppielcpidcmaaaSpan2
import Derived.Test.YtppielcpidcmaaaSpan3
namespace Go.Proofs.Ytppielcpidcmaaa
open Go.RowKit
set_option linter.unusedVariables false
set_option linter.unusedSimpArgs false

theorem inSp_yes {xs : List L2} {k : Nat} {c : L2} {z : Int} (h : xs[k]? = some c) (hz : c.1 ≤ z ∧ z < c.2) : inSp xs z = true :=
  List.any_eq_true.2 ⟨c, List.mem_of_getElem? h, by simpa using hz⟩
theorem inSp_no {xs : List L2} {z : Int} (h : ∀ (j : Nat) (c : L2), xs[j]? = some c → ¬ (c.1 ≤ z ∧ z < c.2)) : inSp xs z = false := by
  cases e : inSp xs z
  · rfl
  · obtain ⟨c, hc, h1⟩ := List.any_eq_true.1 e
    obtain ⟨j, hj⟩ := List.mem_iff_getElem?.1 hc
    exact absurd (by simpa using h1) (h j c hj)

set_option maxHeartbeats 1600000 in
theorem l9In_any (a : Option Addr) (n ca : Nat) (xs : List L2) (z : Int) (w : World) (ha : RdR lineE 2 w a n xs) (hn : n ≤ 1048576) :
    Calls Try.prog 61 #[.slice a n ca, .int .i64 z] w fun e w' => e = .returned (.bool (inSp xs z)) ∧ w' = w := by
  obtain ⟨R, hR⟩ : ∃ R, R = inSp xs z := ⟨_, rfl⟩
  rw [← hR]
  have HYES : Hid (∀ (j : Nat) (c : L2), xs[j]? = some c → (c.1 ≤ z ∧ z < c.2) → R = true) := hid (fun j c hj hz => by rw [hR]; exact inSp_yes hj hz)
  have HNO : Hid ((∀ (j : Nat) (c : L2), xs[j]? = some c → ¬ (c.1 ≤ z ∧ z < c.2)) → R = false) := hid (fun h => by rw [hR]; exact inSp_no h)
  have HL := hid ha.1
  have HA := hid ha
  clear hR ha
  go_enter Try.func61, Try.ntmps61
  go_wp2
  go_loop [5] (fun i => ∃ k : Nat, k ≤ n ∧ i = .int .i64 k ∧ Hid (∀ (j : Nat) (c : L2), j < k → xs[j]? = some c → ¬ (c.1 ≤ z ∧ z < c.2))) (fun i => n - (intOf i).toNat)
  case atStart => exact ⟨0, Nat.zero_le _, rfl, hid (fun j c hj => absurd hj (Nat.not_lt_zero _))⟩
  case round =>
    obtain ⟨k, hk, rfl, HN⟩ := hrel
    by_cases hlt : k < n
    · have hlt' : (k : Int) < (n : Int) := by omega
      obtain ⟨b0, o0, c, ea, hx, hc⟩ := HA.out.at hlt
      subst ea
      have HX := hid hx
      obtain ⟨d0, d1⟩ := two hc
      obtain ⟨x, y⟩ := c
      simp only at d0 d1
      clear hx hc
      by_cases h1 : x ≤ z
      · by_cases h2 : z < y
        · have HT := hid (HYES.out k (x, y) HX.out ⟨h1, h2⟩)
          go_wp2
          go_ret
          exact ⟨ret_bool HT.out.symm, rfl⟩
        · have HN2 : Hid (∀ (j : Nat) (c : L2), j < k + 1 → xs[j]? = some c → ¬ (c.1 ≤ z ∧ z < c.2)) := hid (fun j c hj hc => by
            by_cases e : j = k
            · subst e
              rw [HX.out] at hc
              cases hc
              exact fun h => h2 h.2
            · exact HN.out j c (by omega) hc)
          go_wp2
          go_round
          case rel => exact ⟨k + 1, by omega, by go_num, HN2⟩
          case measure => simp [intOf]; omega
      · have HN2 : Hid (∀ (j : Nat) (c : L2), j < k + 1 → xs[j]? = some c → ¬ (c.1 ≤ z ∧ z < c.2)) := hid (fun j c hj hc => by
          by_cases e : j = k
          · subst e
            rw [HX.out] at hc
            cases hc
            exact fun h => h1 h.1
          · exact HN.out j c (by omega) hc)
        go_wp2
        go_round
        case rel => exact ⟨k + 1, by omega, by go_num, HN2⟩
        case measure => simp [intOf]; omega
    · have HF := hid (HNO.out (fun j c hc => HN.out j c (by have := (List.getElem?_eq_some_iff.1 hc).1; have := HL.out; omega) hc))
      go_wp2
      go_ret
      exact ⟨ret_bool HF.out.symm, rfl⟩

set_option maxHeartbeats 3200000 in
set_option maxRecDepth 20000 in
theorem specMarkBytes_any (a : Option Addr) (n ca : Nat) (xs : List L2) (z : Int) (w : World) (ha : RdR lineE 2 w a n xs) (hn : n ≤ 1048576) :
    Calls Try.prog 20 #[.slice a n ca, .int .i64 z] w fun e w' => ∃ v, e = .returned (.agg #[.int .i64 (mbCode xs z), v]) ∧ RowI .i64 2 w' w.heap.size w'.heap.size v (mbRes xs z).length (mbRes xs z) ∧ Below w.heap.size w w' := by
  have B1 : ∀ o, Below w.heap.size w (w.alloc o) := fun o => (Below.refl _ _).alloc (Nat.le_refl _) o
  have HCF := hid (fun w' h => l9Fault_any a n ca xs w' h hn)
  by_cases hf : spFault xs = 0
  case neg =>
    have e1 : mbCode xs z = spFault xs := by rw [mbCode, if_pos hf]
    have e2 : mbRes xs z = [] := by rw [mbRes, e1, if_neg hf]
    rw [e1, e2]
    generalize spFault xs = T at *
    have hf' : (T == 0) = false := by simpa using hf
    clear e1 e2 hf
    go_enter Try.func20, Try.ntmps20
    go_wp2_with fail
    refine (HCF.out _ (ha.below (B1 _))).mono ?_
    rintro e w1 ⟨rfl, hb1⟩
    obtain ⟨c0, c1, f0, f1⟩ := mb_ends 0 (.int .i64 0) w w1 hb1
    have HB := hid ((B1 _).trans (hb1.mono (by simp)))
    clear hb1
    go_wp2
    refine bodyPost_ret (v := .agg #[.int .i64 T, .slice none 0 0]) (by simp [results, Try.results20, go_sem, c0, c1]) rfl ⟨_, rfl, RowI.nil _ _ _ _ _, ?_⟩
    exact (HB.out.setCell (by show w.heap.size ≤ w.heap.size; omega) _).setCell (by show w.heap.size ≤ w.heap.size; omega) _
  by_cases hz : z < 0 ∨ 400 < z
  case pos =>
    have e1 : mbCode xs z = 3 := by rw [mbCode, if_neg (by simpa using hf), if_pos hz]
    have e2 : mbRes xs z = [] := by rw [mbRes, e1, if_neg (by omega)]
    rw [e1, e2]
    rw [hf] at HCF
    have C1 : Hid _ := fun w' => in5_is z 0 400 false w' (by simp; omega)
    clear e1 e2 hf hz
    go_enter Try.func20, Try.ntmps20
    go_wp2_with fail
    refine (HCF.out _ (ha.below (B1 _))).mono ?_
    rintro e w1 ⟨rfl, hb1⟩
    obtain ⟨c0, c1, f0, f1⟩ := mb_ends 0 (.int .i64 0) w w1 hb1
    have HB := hid ((B1 _).trans (hb1.mono (by simp)))
    clear hb1
    go_wp2_with fail
    refine (C1.out _).mono ?_
    rintro e w2 ⟨rfl, rfl⟩
    go_wp2
    refine bodyPost_ret (v := .agg #[.int .i64 3, .slice none 0 0]) (by simp [results, Try.results20, go_sem, c0, c1]) rfl ⟨_, rfl, RowI.nil _ _ _ _ _, ?_⟩
    exact (HB.out.setCell (by show w.heap.size ≤ w.heap.size; omega) _).setCell (by show w.heap.size ≤ w.heap.size; omega) _
  obtain ⟨N, rfl⟩ : ∃ N : Nat, z = (N : Int) := ⟨z.toNat, by omega⟩
  have e1 : mbCode xs (N : Int) = 0 := by rw [mbCode, if_neg (by simpa using hf), if_neg (by omega)]
  have e2 : mbRes xs (N : Int) = mkPlaces xs N := by rw [mbRes, e1, if_pos rfl]; rfl
  rw [e1, e2]
  have C1 : Hid _ := fun w' => in5_is (N : Int) 0 400 true w' (by simp; omega)
  have HIN := hid (fun z' w' h => l9In_any a n ca xs z' w' h hn)
  have HLEN := hid (mkPlaces_len xs)
  rw [hf] at HCF
  have hN4 : N ≤ 400 := by omega
  clear e1 e2 hf hz
  obtain ⟨i0, hi, hi0, hi1, hi2⟩ := info_parts info64v
  obtain ⟨W0, hW0⟩ : ∃ W0, W0 = w.alloc (.cells #[.int .i64 0, .slice none 0 0] 49) := ⟨_, rfl⟩
  have hw0 : W0.heap.size = w.heap.size + 1 := by rw [hW0]; simp
  have HW0 := hid hW0
  have HW1 := hid hw0
  have HB0 : Hid (Below w.heap.size w W0) := by rw [hW0]; exact hid (B1 _)
  clear hw0 hW0
  go_enter Try.func20, Try.ntmps20
  go_wp2_with fail
  refine (HCF.out _ (ha.below (B1 _))).mono ?_
  rintro e w1 ⟨rfl, hb1⟩
  have HBW : Hid (Below W0.heap.size W0 w1) := by rw [HW0.out]; exact hid hb1
  clear hb1
  go_wp2_with fail
  refine (C1.out _).mono ?_
  rintro e w2 ⟨rfl, rfl⟩
  have HX0 := hid (Blk.new w2 #[.int .i64 0, .slice none 0 0] 49)
  have HBW2 : Hid (Below W0.heap.size W0 (w2.alloc (.cells #[.int .i64 0, .slice none 0 0] 49))) := hid (HBW.out.alloc HBW.out.size _)
  have hX1 : W0.heap.size ≤ w2.heap.size := HBW.out.size
  obtain ⟨X, hX⟩ : ∃ X, X = w2.heap.size := ⟨_, rfl⟩
  go_wp2
  go_loopw [7] (fun i wr => ∃ (k : Nat) (v : Value), k ≤ N ∧ i = .int .i64 k ∧ Hid (Blk wr X #[.int .i64 0, v] 49) ∧ Hid (Own .i64 2 wr (X + 1) v (mkPlaces xs k).length (mkPlaces xs k)) ∧ Hid (Below W0.heap.size W0 wr)) (fun i _ => N - (intOf i).toNat)
  case atStart =>
    subst hX
    exact ⟨0, _, Nat.zero_le _, rfl, HX0, hid (Own.nil _ _), HBW2⟩
  case round =>
    obtain ⟨k, v, hk, rfl, HX, HO, HBK⟩ := hrel
    simp only [← hX]
    have hX2 : W0.heap.size ≤ X := by omega
    have hXw : X + 1 ≤ wr.heap.size := HX.out.lt
    clear hX
    obtain ⟨va, vc, rfl, -, -⟩ := HO.out.rd
    have x0 := HX.out.cell 0
    have x1 := HX.out.cell 1
    have xf := HX.out.frozen 1
    simp at x0 x1
    by_cases hlt : k < N
    · have hlt' : (k : Int) < (N : Int) := by omega
      have HRD0 := hid (ha.below (HB0.out.trans (HBK.out.mono HB0.out.size)))
      have HIK := hid (HIN.out (k : Int) wr HRD0.out)
      have hwr : IntKind.i64.wrap ((k : Int) + 1) = (k : Int) + 1 := by rw [IntKind.wrap_i64]; omega
      cases hin : inSp xs (k : Int)
      · have HMK := hid (mkPlaces_no hin)
        rw [hin] at HIK
        clear hin
        go_wp2_with fail
        refine HIK.out.mono ?_
        rintro e w3 ⟨rfl, rfl⟩
        go_wp2
        go_roundw
        case rel => exact ⟨k + 1, .slice va _ vc, by omega, by go_num, HX, (by rw [HMK.out]; exact HO), HBK⟩
        case measure => simp [intOf]; omega
      · have HMK := hid (mkPlaces_yes hin)
        have hlen := HLEN.out k
        rw [hin] at HIK
        clear hin
        generalize hLL : mkPlaces xs k = L at *
        have HRD := hid (lit9_rd (k := .i64) (e := 2) wr [(k : Int)] 1 rfl (by simp [maxLen]))
        have HOL := hid (World.ownsRow.alloc HO.out (.cells #[.int .i64 (k : Int)] 2))
        have HXL := hid (HX.out.alloc (.cells #[.int .i64 (k : Int)] 2))
        go_wp2_with fail
        refine HIK.out.mono ?_
        rintro e w3 ⟨rfl, hw3⟩
        subst hw3
        go_wp2_with (at_builtin; refine wpList_append_rd rfl _ _ 47 rfl .i64 (X + 1) 2 i0 8 Try.underlying47 hi hi0 hi1 hi2 _ _ L rfl HOL.out (some ⟨w3.heap.size, 0, none⟩) 1 1 [(k : Int)] rfl HRD.out (by simp [maxLen]; omega) (by omega) (by simp; omega) ?_)
        intro v5 w5 ho5 hg5
        have hx5 : Blk w5 X #[.int .i64 0, .slice va L.length vc] 49 := HXL.out.kept hg5 (Blk.not_row HXL.out (by decide) HOL.out)
        have hb5 : Below W0.heap.size W0 w5 := (HBK.out.alloc HBK.out.size _).grown hg5 (by simp; omega) (fun j' hj' => by have := (HOL.out.lt j' hj').1; omega)
        rw [← HMK.out] at ho5
        have hl5 : L.length + 1 = (mkPlaces xs (k + 1)).length := by rw [HMK.out]; simp
        rw [hl5] at ho5
        obtain ⟨v5a, v5c, rfl, -, -⟩ := ho5.rd
        have y1 := hx5.cell 1
        have yf := hx5.frozen 1
        simp at y1
        have hgs := set_grown w5 X 1 (.slice v5a (mkPlaces xs (k + 1)).length v5c)
        have HX6 : Hid (Blk (w5.setCell ⟨X, 1, none⟩ (.slice v5a (mkPlaces xs (k + 1)).length v5c)) X #[.int .i64 0, .slice v5a (mkPlaces xs (k + 1)).length v5c] 49) := hid (by have := hx5.set (i := 1) (.slice v5a (mkPlaces xs (k + 1)).length v5c); simpa using this)
        have HO6 : Hid (Own .i64 2 (w5.setCell ⟨X, 1, none⟩ (.slice v5a (mkPlaces xs (k + 1)).length v5c)) (X + 1) (.slice v5a (mkPlaces xs (k + 1)).length v5c) (mkPlaces xs (k + 1)).length (mkPlaces xs (k + 1))) := hid (ho5.setBelow (by show X < X + 1; omega) _)
        have HB6 : Hid (Below W0.heap.size W0 (w5.setCell ⟨X, 1, none⟩ (.slice v5a (mkPlaces xs (k + 1)).length v5c))) := hid (hb5.setCell (by show W0.heap.size ≤ X; omega) _)
        clear ho5 hg5 hb5 hx5 hl5 hLL hgs
        go_wp2
        go_roundw
        case rel => exact ⟨k + 1, _, by omega, by go_num, HX6, HO6, HB6⟩
        case measure => simp [intOf]; omega
    · obtain rfl : k = N := by omega
      have rb := Blk.of9 (by rw [HW0.out]; exact Blk.new w #[.int .i64 0, .slice none 0 0] 49) HBK.out
      have c0 := rb.cell 0
      have c1 := rb.cell 1
      have f0 := rb.frozen 0
      have f1 := rb.frozen 1
      simp at c0 c1
      have hwz := HW1.out
      clear rb
      go_wp2
      refine bodyPost_ret (v := .agg #[.int .i64 0, .slice va (mkPlaces xs k).length vc]) (by simp [results, Try.results20, go_sem, c0, c1]) rfl ⟨_, rfl, ?_, ?_⟩
      · refine RowI.mono (lo := X + 1) (hi := wr.heap.size) ?_ (by omega) (by simp [World.setCell])
        exact RowI.setB (RowI.setB (RowI.of HO.out) (.inl (by omega)) _ _) (.inl (by omega)) _ _
      · exact ((HB0.out.trans (HBK.out.mono HB0.out.size)).setCell (by show w.heap.size ≤ w.heap.size; omega) _).setCell (by show w.heap.size ≤ w.heap.size; omega) _
end Go.Proofs.Ytppielcpidcmaaa
