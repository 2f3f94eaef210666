/-
  Helpers of the exact laws over spans, and an argument opened.
-/
import Derived.Test.YtppielcpidcmaaaSpanM
import Derived.Test.YtppielcpidcmaaaArgsA
import Derived.Test.YtppielcpidcmaaaHlpL
import Derived.Test.YtppielcpidcmaaaBox
import Derived.Deep.RegionWith
namespace Go.Proofs.Ytppielcpidcmaaa
open Go.ChangeShapes Go.WideShapes Go.ChangeAt Go.RowKit
set_option linter.unusedVariables false
set_option linter.unusedSimpArgs false

def spSum (_ : List L2) : Int := 0

theorem szSpanS_raw (a : Option Addr) (n ca : Nat) (L : Int) (w : World) (hn : n ≤ maxLen) (h0 : 0 ≤ L) (hL : L ≤ 1048576) :
    Calls Try.prog 15 #[.slice a n ca, .int .i64 L] w fun e w' => e = .returned (.int .i64 (if L < (n : Int) then -1 else L - n)) ∧ w' = w := by
  unfold maxLen at hn
  by_cases h : L < (n : Int)
  · rw [if_pos h]
    have h' : L - (n : Int) < 0 := by omega
    go_enter Try.func15, Try.ntmps15
    go_wp2
    go_ret
    exact ⟨rfl, rfl⟩
  · rw [if_neg h]
    have h' : ¬ L - (n : Int) < 0 := by omega
    go_enter Try.func15, Try.ntmps15
    go_wp2
    go_ret
    exact ⟨rfl, rfl⟩

set_option maxHeartbeats 400000 in
theorem toSpan_any (x y : Int) (w : World) :
    Calls Try.prog 57 #[.agg #[.int .i64 x, .int .i64 y]] w fun e w' => e = .returned (.agg #[.int .i64 x, .int .i64 y]) ∧ Below w.heap.size w w' := by
  go_enter Try.func57, Try.ntmps57
  go_wp2
  refine bodyPost_ret (v := .agg #[.int .i64 x, .int .i64 y]) (by simp [results, Try.results57, go_sem]) rfl ⟨rfl, ?_⟩
  exact (((Below.refl _ _).alloc (Nat.le_refl _) _).alloc (by simp) _).alloc (by simp; omega) _

theorem infoSpan : (Try.prog.info? 91).map (fun i => (i.zero, i.size, i.bytes)) = some (some (.agg #[.int .i64 0, .int .i64 0]), 2, 16) := by kernel_rfl

theorem made2V (n : Nat) : (madeCells #[Value.int .i64 0, .int .i64 0] (n * 2)).toList = (List.replicate n ((0, 0) : L2)).flatMap lineE := by
  apply List.ext_getElem?
  intro j
  by_cases hj : j < n * 2
  · have hq : j / 2 < n := by omega
    have h := getElem?_flatMap lineE 2 lineE_len (List.replicate n ((0, 0) : L2)) (j / 2) (j % 2) (0, 0) (by simp [hq]) (by omega)
    rw [show j / 2 * 2 + j % 2 = j by omega] at h
    rw [h]
    have : j % 2 = 0 ∨ j % 2 = 1 := by omega
    rcases this with h | h <;> simp [madeCells, hj, h, lineE]
  · have h2 := length_flatMap' lineE 2 lineE_len (List.replicate n ((0, 0) : L2))
    rw [List.getElem?_eq_none (by simp [madeCells]; omega), List.getElem?_eq_none (by rw [h2]; simp; omega)]

theorem copy2V_set (cs : List L2) (n k : Nat) (c : L2) (h : cs.length = n) (hk : cs[k]? = some c) :
    (cs.take k ++ List.replicate (n - k) (0, 0)).set k c = cs.take (k + 1) ++ List.replicate (n - (k + 1)) (0, 0) := by
  have hk' := (List.getElem?_eq_some_iff.1 hk).1
  obtain ⟨d, hd⟩ : ∃ d, n - k = d + 1 := ⟨n - k - 1, by omega⟩
  rw [hd, List.replicate_succ, set_mid _ _ (by simp; omega), List.take_add_one, hk, show n - (k + 1) = d by omega]
  simp

set_option maxHeartbeats 800000 in
theorem toSpanS_any (a : Option Addr) (n ca : Nat) (cs : List L2) (w : World) (ha : RdR lineE 2 w a n cs) (h1 : n ≤ 1073741824) :
    Calls Try.prog 17 #[.slice a n ca] w fun e w' => ∃ v, e = .returned v ∧ OwnR lineE 2 91 w' w.heap.size v n cs ∧ Below w.heap.size w w' := by
  obtain ⟨i0, hi, hz0, hz1, hz2⟩ := info_parts infoSpan
  have hlen := ha.1
  go_enter Try.func17, Try.ntmps17
  go_wp2_with (at_make; refine wpList_make_full _ rfl _ _ 43 rfl w.heap.size 91 i0 (.agg #[.int .i64 0, .int .i64 0]) 2 Try.underlying43 hi hz0 hz1 _ _ _ _ n rfl rfl rfl rfl (by rw [hz2]; omega) (by unfold maxLen; omega) (Nat.le_refl _) ?_)
  intro w1 hown1 hgrow1
  have ho1 : OwnR lineE 2 91 w1 w.heap.size (.slice (some ⟨w.heap.size, 0, none⟩) n n) n (List.replicate n (0, 0)) := by
    refine ⟨by simp, ?_⟩
    rw [← made2V]
    simpa [Value.cells] using hown1
  have hb1 : Below w.heap.size w w1 := (Below.refl _ _).grown hgrow1 (Nat.le_refl _) (by simp)
  clear hown1 hgrow1
  go_wp2
  go_loopw [4] (fun i wr => ∃ k : Nat, k ≤ n ∧ i = .int .i64 k ∧ OwnR lineE 2 91 wr w.heap.size (.slice (some ⟨w.heap.size, 0, none⟩) n n) n (cs.take k ++ List.replicate (n - k) (0, 0)) ∧ Below w.heap.size w wr ∧ w.heap.size < wr.heap.size) (fun i _ => n - (intOf i).toNat)
  case atStart => exact ⟨0, Nat.zero_le _, rfl, by simpa using ho1, hb1, (ho1.lt w.heap.size rfl).2⟩
  case round =>
    obtain ⟨q, hq, rfl, ho, hb, hz⟩ := hrel
    by_cases hlt : q < n
    · obtain ⟨b1, o1, ci, rfl, hx, hc1⟩ := (ha.below hb).at hlt
      obtain ⟨c0, c1⟩ := two hc1
      have HX : Hid _ := hx
      clear hx hc1
      obtain ⟨x, y⟩ := ci
      simp only at c0 c1
      have hlt' : (q : Int) < (n : Int) := by omega
      go_wp2_with fail
      refine (toSpan_any x y _).mono ?_
      rintro e w2 ⟨rfl, hb2⟩
      have ho2 := ho.below hb2
      have hold : (cs.take q ++ List.replicate (n - q) ((0, 0) : L2))[q]? = some (0, 0) := by
        have hl : (cs.take q).length = q := by simp; omega
        rw [List.getElem?_append_right (by omega), hl, Nat.sub_self, List.getElem?_replicate, if_pos (by omega)]
      have d0 := OwnR.cell (f := 0) lineE_len ho2 hold rfl
      have d1 := OwnR.cell (f := 1) lineE_len ho2 hold rfl
      have f0 := ho2.frozen (q * 2)
      have f1 := ho2.frozen (q * 2 + 1)
      rw [Nat.add_zero] at d0
      have hst := store2 ho2 hold x y
      rw [copy2V_set cs n q _ hlen HX.out] at hst
      have HS : Hid _ := hst
      have hb02 : Below w.heap.size w w2 := hb.trans (hb2.mono hb.size)
      have hz2 : w.heap.size < w2.heap.size := by have := hb2.size; omega
      clear hst ho2 ho hold hb hb2
      go_wp2
      go_roundw
      case rel => exact ⟨q + 1, by omega, by go_num, HS.out.1, (hb02.setCell (Nat.le_refl _) _).setCell (Nat.le_refl _) _, by simpa [World.setCell] using hz2⟩
      case measure => simp [intOf]; omega
    · go_wp2
      go_ret
      obtain rfl : q = n := by omega
      refine ⟨_, rfl, ?_, hb⟩
      rw [List.take_of_length_le (by omega), Nat.sub_self, List.replicate_zero, List.append_nil] at ho
      exact ho

theorem eqSpan_yes (x y : Int) (w : World) :
    Calls Try.prog 60 #[.agg #[.int .i64 x, .int .i64 y], .agg #[.int .i64 x, .int .i64 y]] w fun e w' => e = .returned (.bool true) ∧ Below w.heap.size w w' := by
  go_enter Try.func60, Try.ntmps60
  go_wp2
  go_ret
  exact ⟨rfl, ((Below.refl _ _).alloc (Nat.le_refl _) _).alloc (by simp) _⟩

set_option maxHeartbeats 800000 in
theorem eqSpanS_yes (a b : Option Addr) (n ca cb : Nat) (cs : List L2) (w : World) (ha : RdR lineE 2 w a n cs) (hb : RdR lineE 2 w b n cs) (h1 : n ≤ 1073741824) :
    Calls Try.prog 19 #[.slice a n ca, .slice b n cb] w fun e w' => e = .returned (.bool true) ∧ Below w.heap.size w w' := by
  go_enter Try.func19, Try.ntmps19
  go_wp2
  go_loopw [5] (fun i wr => ∃ k : Nat, k ≤ n ∧ i = .int .i64 k ∧ Below w.heap.size w wr) (fun i _ => n - (intOf i).toNat)
  case atStart => exact ⟨0, Nat.zero_le _, rfl, Below.refl _ _⟩
  case round =>
    obtain ⟨k, hk, rfl, hbw⟩ := hrel
    by_cases hlt : k < n
    · obtain ⟨b1, o1, c, rfl, hx, hc1⟩ := (ha.below hbw).at hlt
      obtain ⟨b2, o2, c', rfl, hx', hc2⟩ := (hb.below hbw).at hlt
      obtain rfl : c = c' := by rw [hx] at hx'; simpa using hx'
      obtain ⟨c0, c1⟩ := two hc1
      obtain ⟨e0, e1⟩ := two hc2
      clear hx hx' hc1 hc2
      obtain ⟨x, y⟩ := c
      simp only at c0 c1 e0 e1
      have hlt' : (k : Int) < (n : Int) := by omega
      go_wp2
      go_region_with (go_at_call 60; refine (eqSpan_yes x y _).mono ?_; rintro e w2 ⟨rfl, hb2⟩)
      all_goals
        go_wp2
        go_roundw
        case rel => exact ⟨k + 1, by omega, by go_num, hbw.drew.trans (hb2.mono hbw.size)⟩
        case measure => simp [intOf]; omega
    · go_wp2
      go_ret
      exact ⟨rfl, hbw⟩

set_option maxHeartbeats 800000 in
theorem markSpanS_own (v : Value) (n base : Nat) (cs : List L2) (x0 : Int) (w : World) (hown : OwnR lineE 2 91 w base v n cs) (h1 : n ≤ 107374182) (h2 : 0 ≤ x0) (h3 : x0 ≤ 1073741824) :
    Calls Try.prog 23 #[v, .int .i64 x0] w fun e w' => e = .returned (.int .i64 (x0 + 2 * n)) ∧ OwnR lineE 2 91 w' base v n (mkL x0 n) ∧ w.grownBy w' v.ownBlock := by
  have hlen := hown.1
  rcases hown.2.2 with ⟨rfl, rfl⟩ | ⟨g, cap, cur, rfl, _⟩
  · go_enter Try.func23, Try.ntmps23
    go_wp2
    refine wp_loop_rounds 1 ?_
    rw [rounds_succ]
    go_wp2
    go_ret
    have hx : cs = [] := List.eq_nil_of_length_eq_zero hlen
    subst hx
    exact ⟨by simp, by simpa [mkL] using hown, World.grownBy.refl _ _⟩
  · go_enter Try.func23, Try.ntmps23
    go_wp2
    go_loopw [1, 5] (fun x i wr => ∃ k : Nat, k ≤ n ∧ i = .int .i64 k ∧ x = .int .i64 (x0 + 2 * k) ∧ OwnR lineE 2 91 wr base (.slice (some ⟨g, 0, none⟩) n cap) n (mkL x0 k ++ cs.drop k) ∧ w.grownBy wr (some g)) (fun _ i _ => n - (intOf i).toNat)
    case atStart => exact ⟨0, Nat.zero_le _, rfl, by go_num, by simpa [mkL] using hown, World.grownBy.refl _ _⟩
    case round =>
      obtain ⟨k, hk, rfl, rfl, ho, hg⟩ := hrel
      by_cases hlt : k < n
      · have hk' : k < cs.length := by omega
        have hold : (mkL x0 k ++ cs.drop k)[k]? = some cs[k] := by
          rw [List.getElem?_append_right (by rw [mkL_len]; omega), mkL_len, Nat.sub_self, List.drop_eq_getElem_cons hk']
          rfl
        generalize cs[k] = c at hold
        have d0 := OwnR.cell (f := 0) lineE_len ho hold rfl
        have d1 := OwnR.cell (f := 1) lineE_len ho hold rfl
        have f0 := ho.frozen (k * 2)
        have f1 := ho.frozen (k * 2 + 1)
        rw [Nat.add_zero] at d0
        have hst := store2 ho hold (x0 + 2 * (k : Int)) (x0 + 2 * (k : Int) + 1)
        rw [markL_set cs x0 n k hlen hlt c] at hst
        have HS : Hid _ := hst
        clear hst ho hold
        have hlt' : (k : Int) < (n : Int) := by omega
        go_wp2
        go_roundw
        case rel => exact ⟨k + 1, by omega, by go_num, by go_num, HS.out.1, grownBy_trans hg HS.out.2⟩
        case measure => simp [intOf]; omega
      · go_wp2
        go_ret
        obtain rfl : k = n := by omega
        refine ⟨rfl, ?_, hg⟩
        rw [List.drop_of_length_le (by omega), List.append_nil] at ho
        exact ho

set_option maxRecDepth 100000 in
theorem open_span {H : Type} {enc : TypeId × Value → H} {W : World} {base : Nat} {sp : Nat → Bool} {hd : Bool} {n : Nat} {cs : List Value} {x : DataW H × List MemPlace}
    (h : DataW.trod enc Try.prog W base sp hd n 93 cs = some x) : ∃ y : L2, cs = lineE y ∧ True := by
  obtain ⟨y0, y1, m, _, hl, h0, h1⟩ := trod_struct2 Try.underlying93 h
  have hc1 : Try.prog.cellsOf 93 = 2 := by kernel_rfl
  have k0 : Try.prog.cellsOf 2 = 1 := by kernel_rfl
  rw [hc1] at hl
  match cs, hl with
  | [u, v], _ =>
    obtain ⟨a, ha, _⟩ := DataW.trod_int Try.underlying2 h0
    obtain ⟨b, hb, _⟩ := DataW.trod_int Try.underlying2 h1
    simp only [k0] at ha hb
    simp at ha hb
    exact ⟨(a, b), by simp [lineE, ha, hb], trivial⟩

theorem szSpanS_any (a : Option Addr) (n ca : Nat) (cs : List L2) (L : Int) (w : World) (ha : RdR lineE 2 w a n cs) (hz : ∀ y ∈ cs, True) (hn : n ≤ maxLen) (h0 : 0 ≤ L) (hL : L ≤ 1048576) :
    Calls Try.prog 15 #[.slice a n ca, .int .i64 L] w fun e w' => e = .returned (.int .i64 (if L < (n : Int) + spSum cs then -1 else L - n - spSum cs)) ∧ Below w.heap.size w w' := by
  refine (szSpanS_raw a n ca L w hn h0 hL).mono ?_
  rintro e w1 ⟨rfl, rfl⟩
  exact ⟨by simp [spSum], Below.refl _ _⟩

theorem toSpanS_row (a : Option Addr) (n ca : Nat) (cs : List L2) (w : World) (ha : RdR lineE 2 w a n cs) (h1 : n ≤ 1073741824) :
    Calls Try.prog 17 #[.slice a n ca] w fun e w' => ∃ v, e = .returned v ∧ RowS lineE 2 91 w' w.heap.size w'.heap.size v n cs ∧ Below w.heap.size w w' := by
  refine (toSpanS_any a n ca cs w ha h1).mono ?_
  rintro e w1 ⟨v, rfl, ho, hb⟩
  exact ⟨v, rfl, RowS.of ho, hb⟩

theorem markSpanS_row (x0 : Int) (v : Value) (n lo hi : Nat) (cs : List L2) (w : World) (ho : RowS lineE 2 91 w lo hi v n cs) (h1 : n ≤ 107374182) (h2 : 0 ≤ x0) (h3 : x0 ≤ 1073741824) :
    Calls Try.prog 23 #[v, .int .i64 x0] w fun e w' => e = .returned (.int .i64 (x0 + 2 * n)) ∧ RowS lineE 2 91 w' lo hi v n (mkL x0 n) ∧ Chg lo hi w w' := by
  exact (markSpanS_own v n lo cs x0 w ho.1 h1 h2 h3).mono fun e w' ⟨he, h, hg⟩ => ⟨he, ⟨h, ho.2⟩, Chg.of_grown hg (fun j hj => ⟨(ho.1.lt j hj).1, ho.2 j hj⟩)⟩

theorem open_spans {H : Type} {enc : TypeId × Value → H} {W : World} {a : Option Addr} {len cap : Nat} {d : DataW H} {p : List MemPlace} {base : Nat} {sp : Nat → Bool} {hd : Bool}
    (h : DataW.Trod enc Try.prog W base sp hd 40 (.slice a len cap) d p) : ∃ cs : List L2, RdR lineE 2 W a len cs ∧ (∀ y ∈ cs, True) ∧ len ≤ cap ∧ cap ≤ maxLen :=
  open_rows lineE 2 (fun _ => True) Try.underlying40 (by kernel_rfl) lineE_len (by omega) (fun n cs x hx => open_span hx) h
end Go.Proofs.Ytppielcpidcmaaa
