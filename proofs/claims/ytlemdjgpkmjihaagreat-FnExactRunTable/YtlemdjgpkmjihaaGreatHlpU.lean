/-
  HlpS, HlpR in one text.
-/
import Derived.Test.YtlemdjgpkmjihaaGreatHlpNA
import Derived.Test.YtlemdjgpkmjihaaGreatHlpA
import Derived.Test.YtlemdjgpkmjihaaGreatText0
namespace Go.Proofs.YtlemdjgpkmjihaaGreat
open Go.RowKit
set_option linter.unusedVariables false
set_option linter.unusedSimpArgs false

/-- The text of a mark. -/
def mtGo : Nat → Int → ByteArray → ByteArray
  | 0, _, out => ⟨#[109]⟩ ++ out
  | f + 1, k, out => if 0 < k then mtGo f (k / 10) (strOf [48 + k % 10] ++ out) else ⟨#[109]⟩ ++ out
def mtext (k : Int) : ByteArray := mtGo (k.toNat + 1) k ⟨#[]⟩

theorem litS_rd {k : IntKind} {e : TypeId} (w : World) (zs : List Int) (n : Nat) (hn : zs.length = n) (hm : n ≤ maxLen) : Rd k (w.alloc (.cells (zs.map (Value.int k)).toArray e)) (some ⟨w.heap.size, 0, none⟩) n zs := by
  have := own_lit (k := k) (e := e) w (zs.map (Value.int k)).toArray n w.heap.size zs (by simp) hn (Nat.le_refl _) hm
  obtain ⟨a, c, hv, hr, _⟩ := this.rd
  simp only [Value.slice.injEq] at hv
  rw [hv.1, ← hn]
  exact hr

theorem strOf_size (ns : List Int) : (strOf ns).size = ns.length := by
  have h : ∀ (ns : List Int) (r : ByteArray), (ns.foldl (fun r n => r.push (UInt8.ofNat n.toNat)) r).size = r.size + ns.length := by
    intro ns
    induction ns with
    | nil => intro r; rfl
    | cons n ns ih => intro r; rw [List.foldl_cons, ih]; simp; omega
  rw [strOf, h]
  simp

set_option maxHeartbeats 1600000 in
set_option maxRecDepth 20000 in
theorem markText_any (k : Int) (w : World) (h0 : 0 < k) (h1 : k ≤ 2147483648) :
    Calls Tryz.prog 39 #[.int .i64 k] w fun r w' => r = .returned (.string (mtext k)) ∧ Below w.heap.size w w' := by
  obtain ⟨R, hR⟩ : ∃ R, R = mtext k := ⟨_, rfl⟩
  rw [← hR]
  have HR : Hid (mtGo (k.toNat + 1) k ⟨#[]⟩ = R) := hR.symm
  have hk : ¬ k ≤ 0 := by omega
  clear hR
  go_enter Tryz.func39, Tryz.ntmps39
  go_wp2
  go_loopw [0, 3] (fun x o wr => ∃ (f : Nat) (q : Int) (out : ByteArray), x = .int .i64 q ∧ o = .string out ∧ 0 ≤ q ∧ q < f ∧ (out.size : Int) + q ≤ 2147483648 ∧ Hid (mtGo f q out = R) ∧ Below w.heap.size w wr) (fun x _ _ => (intOf x).toNat)
  case atStart => exact ⟨k.toNat + 1, k, ⟨#[]⟩, rfl, rfl, by omega, by omega, by rw [show ((⟨#[]⟩ : ByteArray).size : Int) = 0 from rfl]; omega, HR, Below.refl _ _⟩
  case round =>
    obtain ⟨f, q, out, rfl, rfl, hq0, hqf, hsz, HM, hbw⟩ := hrel
    clear HR
    by_cases hq : 0 < q
    · obtain ⟨f', rfl⟩ : ∃ f', f = f' + 1 := ⟨f - 1, by omega⟩
      have hm := HM.out
      rw [mtGo, if_pos hq] at hm
      obtain ⟨c, hc⟩ : ∃ c, c = 48 + q % 10 := ⟨_, rfl⟩
      rw [← hc] at hm
      have HM2 : Hid _ := hm
      have hcv : ∀ w' : World, (convert 44 9 (.slice (some ⟨w'.heap.size, 0, none⟩) 1 1)).run Tryz.prog (w'.alloc (.cells #[.int .u8 (48 + q % 10)] 5)) = .ok (.string (strOf [c])) (w'.alloc (.cells #[.int .u8 (48 + q % 10)] 5)) := fun w' => by rw [hc]; exact conv_str (P := Tryz.prog) (S := 44) (D := 9) (cap := 1) (litS_rd (k := .u8) (e := 5) w' [48 + q % 10] 1 rfl (by simp [maxLen])) Tryz.underlying44 Tryz.underlying5 Tryz.underlying9
      have hs1 : (strOf [c]).size = 1 := strOf_size [c]
      have hs2 : (strOf [c] ++ out).size = 1 + out.size := by rw [ByteArray.size_append, hs1]
      have hw8 : (48 + q % 10) % 256 = 48 + q % 10 := by omega
      have HS2 : Hid _ := hs2
      generalize strOf [c] = S at *
      clear hm hc HM hs2
      go_wp2
      go_roundw
      case rel => exact ⟨f', q / 10, S ++ out, rfl, rfl, by omega, by omega, by rw [HS2.out]; omega, HM2, hbw.alloc hbw.size _⟩
      case measure => simp [intOf]; omega
    · have hm := HM.out
      have hfin : ⟨#[109]⟩ ++ out = R := by
        cases f with
        | zero => exact hm
        | succ f => rw [mtGo, if_neg hq] at hm; exact hm
      have hq' : q = 0 := by omega
      have hsz2 : ((⟨#[109]⟩ : ByteArray).size : Int) = 1 := rfl
      clear HM hm
      go_wp2
      go_ret
      exact ⟨rfl, hbw⟩
/-- What is written into one. -/
def mkInE (K : Int) : In := ⟨K, K + 1, K + 2, mtext (K + 3), K + 4, K + 5, K + 6, K + 7⟩
def mkIn (x0 : Int) (n : Nat) : List In := (List.range n).map fun (j : Nat) => mkInE (x0 + 8 * (j : Int))
theorem mkIn_len (x0 : Int) (n : Nat) : (mkIn x0 n).length = n := by simp [mkIn]
theorem mkIn_succ (x0 : Int) (n : Nat) : mkIn x0 (n + 1) = mkIn x0 n ++ [mkInE (x0 + 8 * (n : Int))] := by simp [mkIn, List.range_succ]
theorem mkIn_at (x0 : Int) (n j : Nat) (h : j < n) : (mkIn x0 n)[j]? = some (mkInE (x0 + 8 * (j : Int))) := by simp [mkIn, h]

theorem mkIn_storea {e : TypeId} {w : World} {base g n cap j : Nat} {xs : List In} {c : In} (h : OwnR inE 8 e w base (.slice (some ⟨g, 0, none⟩) n cap) n xs) (hx : xs[j]? = some c) (K K1 K2 : Int) :
    OwnR inE 8 e (((w.setCell ⟨g, j * 8, none⟩ (.int .i64 K)).setCell ⟨g, j * 8 + 1, none⟩ (.int .i64 K1)).setCell ⟨g, j * 8 + 2, none⟩ (.int .i64 K2)) base (.slice (some ⟨g, 0, none⟩) n cap) n (xs.set j ⟨K, K1, K2, c.s, c.l, c.r, c.x, c.y⟩) ∧ w.grownBy (((w.setCell ⟨g, j * 8, none⟩ (.int .i64 K)).setCell ⟨g, j * 8 + 1, none⟩ (.int .i64 K1)).setCell ⟨g, j * 8 + 2, none⟩ (.int .i64 K2)) (some g) := by
  have hj : j < xs.length := (List.getElem?_eq_some_iff.1 hx).1
  have s0 := OwnR.store (f := 0) (u := .int .i64 K) (y := ⟨K, c.k, c.c, c.s, c.l, c.r, c.x, c.y⟩) inE_len h hx (by omega) rfl
  rw [Nat.add_zero] at s0
  have x1 : (xs.set j ⟨K, c.k, c.c, c.s, c.l, c.r, c.x, c.y⟩)[j]? = some ⟨K, c.k, c.c, c.s, c.l, c.r, c.x, c.y⟩ := by simp [hj]
  have s1 := OwnR.store (f := 1) (u := .int .i64 K1) (y := ⟨K, K1, c.c, c.s, c.l, c.r, c.x, c.y⟩) inE_len s0.1 x1 (by omega) rfl
  have x2 : ((xs.set j ⟨K, c.k, c.c, c.s, c.l, c.r, c.x, c.y⟩).set j ⟨K, K1, c.c, c.s, c.l, c.r, c.x, c.y⟩)[j]? = some ⟨K, K1, c.c, c.s, c.l, c.r, c.x, c.y⟩ := by simp [hj]
  have s2 := OwnR.store (f := 2) (u := .int .i64 K2) (y := ⟨K, K1, K2, c.s, c.l, c.r, c.x, c.y⟩) inE_len s1.1 x2 (by omega) rfl
  rw [List.set_set, List.set_set] at s2
  exact ⟨s2.1, (grown_trans' (grown_trans' s0.2 s1.2) s2.2)⟩

theorem mkIn_storeb {e : TypeId} {w : World} {base g n cap j : Nat} {xs : List In} {c : In} (h : OwnR inE 8 e w base (.slice (some ⟨g, 0, none⟩) n cap) n xs) (hx : xs[j]? = some c) (K4 K5 K6 K7 : Int) (S : ByteArray) :
    OwnR inE 8 e (((((w.setCell ⟨g, j * 8 + 3, none⟩ (.string S)).setCell ⟨g, j * 8 + 4, none⟩ (.int .i64 K4)).setCell ⟨g, j * 8 + 5, none⟩ (.int .i64 K5)).setCell ⟨g, j * 8 + 6, none⟩ (.int .i64 K6)).setCell ⟨g, j * 8 + 7, none⟩ (.int .i64 K7)) base (.slice (some ⟨g, 0, none⟩) n cap) n (xs.set j ⟨c.o, c.k, c.c, S, K4, K5, K6, K7⟩) ∧ w.grownBy (((((w.setCell ⟨g, j * 8 + 3, none⟩ (.string S)).setCell ⟨g, j * 8 + 4, none⟩ (.int .i64 K4)).setCell ⟨g, j * 8 + 5, none⟩ (.int .i64 K5)).setCell ⟨g, j * 8 + 6, none⟩ (.int .i64 K6)).setCell ⟨g, j * 8 + 7, none⟩ (.int .i64 K7)) (some g) := by
  have hj : j < xs.length := (List.getElem?_eq_some_iff.1 hx).1
  have s3 := OwnR.store (f := 3) (u := .string S) (y := ⟨c.o, c.k, c.c, S, c.l, c.r, c.x, c.y⟩) inE_len h hx (by omega) rfl
  have x4 : (xs.set j ⟨c.o, c.k, c.c, S, c.l, c.r, c.x, c.y⟩)[j]? = some ⟨c.o, c.k, c.c, S, c.l, c.r, c.x, c.y⟩ := by simp [hj]
  have s4 := OwnR.store (f := 4) (u := .int .i64 K4) (y := ⟨c.o, c.k, c.c, S, K4, c.r, c.x, c.y⟩) inE_len s3.1 x4 (by omega) rfl
  have x5 : ((xs.set j ⟨c.o, c.k, c.c, S, c.l, c.r, c.x, c.y⟩).set j ⟨c.o, c.k, c.c, S, K4, c.r, c.x, c.y⟩)[j]? = some ⟨c.o, c.k, c.c, S, K4, c.r, c.x, c.y⟩ := by simp [hj]
  have s5 := OwnR.store (f := 5) (u := .int .i64 K5) (y := ⟨c.o, c.k, c.c, S, K4, K5, c.x, c.y⟩) inE_len s4.1 x5 (by omega) rfl
  have x6 : (((xs.set j ⟨c.o, c.k, c.c, S, c.l, c.r, c.x, c.y⟩).set j ⟨c.o, c.k, c.c, S, K4, c.r, c.x, c.y⟩).set j ⟨c.o, c.k, c.c, S, K4, K5, c.x, c.y⟩)[j]? = some ⟨c.o, c.k, c.c, S, K4, K5, c.x, c.y⟩ := by simp [hj]
  have s6 := OwnR.store (f := 6) (u := .int .i64 K6) (y := ⟨c.o, c.k, c.c, S, K4, K5, K6, c.y⟩) inE_len s5.1 x6 (by omega) rfl
  have x7 : ((((xs.set j ⟨c.o, c.k, c.c, S, c.l, c.r, c.x, c.y⟩).set j ⟨c.o, c.k, c.c, S, K4, c.r, c.x, c.y⟩).set j ⟨c.o, c.k, c.c, S, K4, K5, c.x, c.y⟩).set j ⟨c.o, c.k, c.c, S, K4, K5, K6, c.y⟩)[j]? = some ⟨c.o, c.k, c.c, S, K4, K5, K6, c.y⟩ := by simp [hj]
  have s7 := OwnR.store (f := 7) (u := .int .i64 K7) (y := ⟨c.o, c.k, c.c, S, K4, K5, K6, K7⟩) inE_len s6.1 x7 (by omega) rfl
  rw [List.set_set, List.set_set, List.set_set, List.set_set] at s7
  exact ⟨s7.1, (grown_trans' (grown_trans' (grown_trans' (grown_trans' s3.2 s4.2) s5.2) s6.2) s7.2)⟩

theorem mkIn_set (xs : List In) (x0 : Int) (n k : Nat) (h : xs.length = n) (hk : k < n) : (mkIn x0 k ++ xs.drop k).set k (mkInE (x0 + 8 * (k : Int))) = mkIn x0 (k + 1) ++ xs.drop (k + 1) := by
  rw [List.drop_eq_getElem_cons (show k < xs.length by omega), set_mid _ _ (by rw [mkIn_len]), mkIn_succ]
theorem mkIn_cur (xs : List In) (x0 : Int) (n k : Nat) (h : xs.length = n) (hk : k < n) : ∃ c, (mkIn x0 k ++ xs.drop k)[k]? = some c := by
  exact ⟨_, List.getElem?_eq_getElem (by simp [mkIn_len]; omega)⟩

set_option maxHeartbeats 3200000 in
set_option maxRecDepth 20000 in
theorem markInstS_own (v : Value) (n base : Nat) (xs : List In) (x0 : Int) (w : World) (hown : OwnR inE 8 64 w base v n xs) (h1 : n ≤ 1048576) (h2 : 0 < x0) (h3 : x0 ≤ 1073741824) :
    Calls Tryz.prog 14 #[v, .int .i64 x0] w fun e w' => e = .returned (.int .i64 (x0 + 8 * (n : Int))) ∧ OwnR inE 8 64 w' base v n (mkIn x0 n) ∧ w.grownBy w' v.ownBlock := by
  have hlen := hown.1
  rcases hown.2.2 with ⟨rfl, rfl⟩ | ⟨g, cap, cur, rfl, _⟩
  · go_enter Tryz.func14, Tryz.ntmps14
    go_wp2
    refine wp_loop_rounds 1 ?_
    rw [rounds_succ]
    go_wp2
    go_ret
    have hx : xs = [] := List.eq_nil_of_length_eq_zero hlen
    subst hx
    exact ⟨by simp, by simpa [mkIn] using hown, World.grownBy.refl _ _⟩
  · have HL : Hid _ := hlen
    clear hlen
    have HS0 : Hid (OwnR inE 8 64 w base (.slice (some ⟨g, 0, none⟩) n cap) n (mkIn x0 0 ++ xs.drop 0)) := hown
    have hgl := hown.lt g rfl
    go_enter Tryz.func14, Tryz.ntmps14
    go_wp2
    go_loopw [1, 5] (fun x i wr => ∃ (k : Nat) (K : Int), k ≤ n ∧ i = .int .i64 k ∧ x = .int .i64 K ∧ Hid (K = x0 + 8 * (k : Int)) ∧ 0 < K ∧ K ≤ 1073741824 + 8 * (k : Int) ∧ Hid (OwnR inE 8 64 wr base (.slice (some ⟨g, 0, none⟩) n cap) n (mkIn x0 k ++ xs.drop k)) ∧ w.grownBy wr (some g)) (fun _ i _ => n - (intOf i).toNat)
    case atStart => exact ⟨0, x0, Nat.zero_le _, rfl, rfl, (by simp : x0 = x0 + 8 * ((0 : Nat) : Int)), h2, by omega, HS0, World.grownBy.refl _ _⟩
    case round =>
      obtain ⟨k, K, hk, rfl, rfl, HK, hK0, hK1, HO, hg⟩ := hrel
      clear HS0
      by_cases hlt : k < n
      · have hlt' : (k : Int) < (n : Int) := by omega
        obtain ⟨c, hc⟩ := mkIn_cur xs x0 n k HL.out hlt
        have ho := HO.out
        have d0 := OwnR.cell (f := 0) inE_len ho hc rfl
        have d1 := OwnR.cell (f := 1) inE_len ho hc rfl
        have d2 := OwnR.cell (f := 2) inE_len ho hc rfl
        have d3 := OwnR.cell (f := 3) inE_len ho hc rfl
        have d4 := OwnR.cell (f := 4) inE_len ho hc rfl
        have d5 := OwnR.cell (f := 5) inE_len ho hc rfl
        have d6 := OwnR.cell (f := 6) inE_len ho hc rfl
        have d7 := OwnR.cell (f := 7) inE_len ho hc rfl
        have f0 := ho.frozen (k * 8)
        have f1 := ho.frozen (k * 8 + 1)
        have f2 := ho.frozen (k * 8 + 2)
        have f3 := ho.frozen (k * 8 + 3)
        have f4 := ho.frozen (k * 8 + 4)
        have f5 := ho.frozen (k * 8 + 5)
        have f6 := ho.frozen (k * 8 + 6)
        have f7 := ho.frozen (k * 8 + 7)
        rw [Nat.add_zero] at d0
        obtain ⟨K1, hK1d⟩ : ∃ q, K + 1 = q := ⟨_, rfl⟩
        obtain ⟨K2, hK2d⟩ : ∃ q, K1 + 1 = q := ⟨_, rfl⟩
        obtain ⟨K3, hK3d⟩ : ∃ q, K2 + 1 = q := ⟨_, rfl⟩
        obtain ⟨K4, hK4d⟩ : ∃ q, K3 + 1 = q := ⟨_, rfl⟩
        obtain ⟨K5, hK5d⟩ : ∃ q, K4 + 1 = q := ⟨_, rfl⟩
        obtain ⟨K6, hK6d⟩ : ∃ q, K5 + 1 = q := ⟨_, rfl⟩
        obtain ⟨K7, hK7d⟩ : ∃ q, K6 + 1 = q := ⟨_, rfl⟩
        obtain ⟨K8, hK8d⟩ : ∃ q, K7 + 1 = q := ⟨_, rfl⟩
        have hsa := mkIn_storea ho hc K K1 K2
        obtain ⟨W3, hW3⟩ : ∃ W3, W3 = (((wr.setCell ⟨g, k * 8, none⟩ (.int .i64 K)).setCell ⟨g, k * 8 + 1, none⟩ (.int .i64 K1)).setCell ⟨g, k * 8 + 2, none⟩ (.int .i64 K2)) := ⟨_, rfl⟩
        rw [← hW3] at hsa
        have HSA : Hid _ := hsa
        have hc2 : ((mkIn x0 k ++ xs.drop k).set k ⟨K, K1, K2, c.s, c.l, c.r, c.x, c.y⟩)[k]? = some ⟨K, K1, K2, c.s, c.l, c.r, c.x, c.y⟩ := by
          rw [List.getElem?_set_self (by have := (List.getElem?_eq_some_iff.1 hc).1; exact this)]
        have HC2 : Hid _ := hc2
        have CM : Hid _ := fun w' => markText_any K3 w' (by omega) (by omega)
        have hKe : K3 = K + 3 := by omega
        have HKF : Hid (K1 = K + 1 ∧ K2 = K + 2 ∧ K3 = K + 3 ∧ K4 = K + 4 ∧ K5 = K + 5 ∧ K6 = K + 6 ∧ K7 = K + 7 ∧ K8 = K + 8) := ⟨by omega, by omega, by omega, by omega, by omega, by omega, by omega, by omega⟩
        generalize hSS : mtext K3 = S at CM
        have HSS : Hid _ := hSS
        rw [hW3] at HSA
        clear hsa hc2 hc ho hSS hKe hW3 W3
        go_wp2_with fail
        refine (CM.out _).mono ?_
        rintro e w2 ⟨rfl, hb2⟩
        have ho2 := HSA.out.1.below hb2
        have g3 := OwnR.cell (f := 3) inE_len ho2 HC2.out rfl
        have g4 := OwnR.cell (f := 4) inE_len ho2 HC2.out rfl
        have g5 := OwnR.cell (f := 5) inE_len ho2 HC2.out rfl
        have g6 := OwnR.cell (f := 6) inE_len ho2 HC2.out rfl
        have g7 := OwnR.cell (f := 7) inE_len ho2 HC2.out rfl
        have q3 := ho2.frozen (k * 8 + 3)
        have q4 := ho2.frozen (k * 8 + 4)
        have q5 := ho2.frozen (k * 8 + 5)
        have q6 := ho2.frozen (k * 8 + 6)
        have q7 := ho2.frozen (k * 8 + 7)
        have hsb := mkIn_storeb ho2 HC2.out K4 K5 K6 K7 S
        rw [List.set_set] at hsb
        have hel : (⟨K, K1, K2, S, K4, K5, K6, K7⟩ : In) = mkInE (x0 + 8 * (k : Int)) := by
          obtain ⟨r1, r2, r3, r4, r5, r6, r7, r8⟩ := HKF.out
          rw [← HK.out, ← HSS.out, r3]
          show _ = (⟨K, K + 1, K + 2, mtext (K + 3), K + 4, K + 5, K + 6, K + 7⟩ : In)
          rw [r1, r2, r4, r5, r6, r7]
        simp only at hsb
        rw [hel, mkIn_set xs x0 n k HL.out hlt] at hsb
        have HSB : Hid _ := hsb
        have hg2 : w.grownBy w2 (some g) := grown_trans hg (grown_trans HSA.out.2 (grown_none (grownBy_of_below hb2)))
        clear hsb ho2 hel hb2 d0 d1 d2 d3 d4 d5 d6 d7
        go_wp2
        go_roundw
        case rel => exact ⟨k + 1, K8, by omega, by go_num, rfl, (by have r1 := HK.out; have r2 := HKF.out; omega : K8 = x0 + 8 * ((k + 1 : Nat) : Int)), by omega, by omega, HSB.out.1, grown_trans hg2 HSB.out.2⟩
        case measure => simp [intOf]; omega
      · go_wp2
        go_ret
        obtain rfl : k = n := by omega
        have hO := HO.out
        rw [List.drop_of_length_le (by rw [HL.out]; omega), List.append_nil] at hO
        exact ⟨ret_int HK.out, hO, hg⟩

theorem markInstS_row (v : Value) (n lo hi : Nat) (xs : List In) (x0 : Int) (w : World) (ho : RowS inE 8 64 w lo hi v n xs) (h1 : n ≤ 1048576) (h2 : 0 < x0) (h3 : x0 ≤ 1073741824) :
    Calls Tryz.prog 14 #[v, .int .i64 x0] w fun e w' => e = .returned (.int .i64 (x0 + 8 * (n : Int))) ∧ RowS inE 8 64 w' lo hi v n (mkIn x0 n) ∧ Chg lo hi w w' :=
  (markInstS_own v n lo xs x0 w ho.1 h1 h2 h3).mono fun e w' ⟨he, h, hg⟩ => ⟨he, ⟨h, ho.2⟩, Chg.of_grown hg (fun j hj => ⟨(ho.1.lt j hj).1, ho.2 j hj⟩)⟩

/-- What is written into one. -/
def mkNdE (K : Int) : Nd := ⟨K, K + 1, mtext (K + 2), K + 3, K + 4⟩
def mkNd (x0 : Int) (n : Nat) : List Nd := (List.range n).map fun (j : Nat) => mkNdE (x0 + 5 * (j : Int))
theorem mkNd_len (x0 : Int) (n : Nat) : (mkNd x0 n).length = n := by simp [mkNd]
theorem mkNd_succ (x0 : Int) (n : Nat) : mkNd x0 (n + 1) = mkNd x0 n ++ [mkNdE (x0 + 5 * (n : Int))] := by simp [mkNd, List.range_succ]
theorem mkNd_at (x0 : Int) (n j : Nat) (h : j < n) : (mkNd x0 n)[j]? = some (mkNdE (x0 + 5 * (j : Int))) := by simp [mkNd, h]

theorem mkNd_storea {e : TypeId} {w : World} {base g n cap j : Nat} {xs : List Nd} {c : Nd} (h : OwnR ndE 5 e w base (.slice (some ⟨g, 0, none⟩) n cap) n xs) (hx : xs[j]? = some c) (K K1 : Int) :
    OwnR ndE 5 e ((w.setCell ⟨g, j * 5, none⟩ (.int .i64 K)).setCell ⟨g, j * 5 + 1, none⟩ (.int .i64 K1)) base (.slice (some ⟨g, 0, none⟩) n cap) n (xs.set j ⟨K, K1, c.s, c.l, c.r⟩) ∧ w.grownBy ((w.setCell ⟨g, j * 5, none⟩ (.int .i64 K)).setCell ⟨g, j * 5 + 1, none⟩ (.int .i64 K1)) (some g) := by
  have hj : j < xs.length := (List.getElem?_eq_some_iff.1 hx).1
  have s0 := OwnR.store (f := 0) (u := .int .i64 K) (y := ⟨K, c.c, c.s, c.l, c.r⟩) ndE_len h hx (by omega) rfl
  rw [Nat.add_zero] at s0
  have x1 : (xs.set j ⟨K, c.c, c.s, c.l, c.r⟩)[j]? = some ⟨K, c.c, c.s, c.l, c.r⟩ := by simp [hj]
  have s1 := OwnR.store (f := 1) (u := .int .i64 K1) (y := ⟨K, K1, c.s, c.l, c.r⟩) ndE_len s0.1 x1 (by omega) rfl
  rw [List.set_set] at s1
  exact ⟨s1.1, (grown_trans' s0.2 s1.2)⟩

theorem mkNd_storeb {e : TypeId} {w : World} {base g n cap j : Nat} {xs : List Nd} {c : Nd} (h : OwnR ndE 5 e w base (.slice (some ⟨g, 0, none⟩) n cap) n xs) (hx : xs[j]? = some c) (K3 K4 : Int) (S : ByteArray) :
    OwnR ndE 5 e (((w.setCell ⟨g, j * 5 + 2, none⟩ (.string S)).setCell ⟨g, j * 5 + 3, none⟩ (.int .i64 K3)).setCell ⟨g, j * 5 + 4, none⟩ (.int .i64 K4)) base (.slice (some ⟨g, 0, none⟩) n cap) n (xs.set j ⟨c.k, c.c, S, K3, K4⟩) ∧ w.grownBy (((w.setCell ⟨g, j * 5 + 2, none⟩ (.string S)).setCell ⟨g, j * 5 + 3, none⟩ (.int .i64 K3)).setCell ⟨g, j * 5 + 4, none⟩ (.int .i64 K4)) (some g) := by
  have hj : j < xs.length := (List.getElem?_eq_some_iff.1 hx).1
  have s2 := OwnR.store (f := 2) (u := .string S) (y := ⟨c.k, c.c, S, c.l, c.r⟩) ndE_len h hx (by omega) rfl
  have x3 : (xs.set j ⟨c.k, c.c, S, c.l, c.r⟩)[j]? = some ⟨c.k, c.c, S, c.l, c.r⟩ := by simp [hj]
  have s3 := OwnR.store (f := 3) (u := .int .i64 K3) (y := ⟨c.k, c.c, S, K3, c.r⟩) ndE_len s2.1 x3 (by omega) rfl
  have x4 : ((xs.set j ⟨c.k, c.c, S, c.l, c.r⟩).set j ⟨c.k, c.c, S, K3, c.r⟩)[j]? = some ⟨c.k, c.c, S, K3, c.r⟩ := by simp [hj]
  have s4 := OwnR.store (f := 4) (u := .int .i64 K4) (y := ⟨c.k, c.c, S, K3, K4⟩) ndE_len s3.1 x4 (by omega) rfl
  rw [List.set_set, List.set_set] at s4
  exact ⟨s4.1, (grown_trans' (grown_trans' s2.2 s3.2) s4.2)⟩

theorem mkNd_set (xs : List Nd) (x0 : Int) (n k : Nat) (h : xs.length = n) (hk : k < n) : (mkNd x0 k ++ xs.drop k).set k (mkNdE (x0 + 5 * (k : Int))) = mkNd x0 (k + 1) ++ xs.drop (k + 1) := by
  rw [List.drop_eq_getElem_cons (show k < xs.length by omega), set_mid _ _ (by rw [mkNd_len]), mkNd_succ]
theorem mkNd_cur (xs : List Nd) (x0 : Int) (n k : Nat) (h : xs.length = n) (hk : k < n) : ∃ c, (mkNd x0 k ++ xs.drop k)[k]? = some c := by
  exact ⟨_, List.getElem?_eq_getElem (by simp [mkNd_len]; omega)⟩

end Go.Proofs.YtlemdjgpkmjihaaGreat

namespace Go.Proofs.YtlemdjgpkmjihaaGreat
open Go.RowKit
set_option linter.unusedVariables false

theorem u8_bd {c : Int} (h : (Lit.int .u8 c).wf = true) : 0 ≤ c ∧ c < 256 := by
  have h' : 0 ≤ c ∧ c ≤ 255 := by simpa [Lit.wf, IntKind.min, IntKind.max, IntKind.signed, IntKind.bits] using h
  omega
end Go.Proofs.YtlemdjgpkmjihaaGreat
