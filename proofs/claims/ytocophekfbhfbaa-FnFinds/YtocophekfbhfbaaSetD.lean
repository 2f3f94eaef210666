/-
  Set6, Set7 in one text.
-/
import Derived.Test.YtocophekfbhfbaaSetA
import Derived.Test.YtocophekfbhfbaaAppend
import Derived.Test.YtocophekfbhfbaaProg1
import Derived.Test.YtocophekfbhfbaaSetB
namespace Go.Proofs.Ytocophekfbhfbaa
open Go.RowKit
set_option linter.unusedVariables false
set_option linter.unusedSimpArgs false

/-- A bool's one cell. -/
def bE (b : Bool) : List Value := [.bool b]
theorem bE_len (b : Bool) : (bE b).length = 1 := rfl

theorem dfsS_marked {tg : In → Option Nat × Option Nat} {is : List In} {f : Nat} {bs : List Bool} {p : Nat} (h : bs.getD p false = true) : dfs tg is (f + 1) bs p = bs := by
  unfold dfs; rw [if_pos h]
theorem dfsS_two {b e : Bool} {is : List In} {f : Nat} {bs : List Bool} {p : Nat} {i : In} (h : bs.getD p false = false) (hi : is[p]? = some i) (ho : i.o = 2) :
    dfs (tgS b e) is (f + 1) bs p = dfs (tgS b e) is f (dfs (tgS b e) is f (bs.set p true) i.x.toNat) i.y.toNat := by
  rw [dfs, if_neg (by rw [h]; simp), hi]
  simp [tgS, ho, goesX]
theorem dfsS_one {b e : Bool} {is : List In} {f : Nat} {bs : List Bool} {p : Nat} {i : In} (h : bs.getD p false = false) (hi : is[p]? = some i) (ho : i.o ≠ 2) (hg : goesX b e i = true) :
    dfs (tgS b e) is (f + 1) bs p = dfs (tgS b e) is f (bs.set p true) i.x.toNat := by
  rw [dfs, if_neg (by rw [h]; simp), hi]
  simp [tgS, ho, hg]
theorem dfsS_end {b e : Bool} {is : List In} {f : Nat} {bs : List Bool} {p : Nat} {i : In} (h : bs.getD p false = false) (hi : is[p]? = some i) (ho : i.o ≠ 2) (hg : goesX b e i = false) :
    dfs (tgS b e) is (f + 1) bs p = bs.set p true := by
  rw [dfs, if_neg (by rw [h]; simp), hi]
  simp [tgS, ho, hg]

theorem getD_of {bs : List Bool} {p : Nat} (h : p < bs.length) : bs[p]? = some (bs.getD p false) := by
  simp [List.getD_eq_getElem?_getD, h]

set_option maxHeartbeats 6400000 in
set_option maxRecDepth 20000 in
theorem l7Reach_any (w0 : World) (a : Option Addr) (n ca : Nat) (is : List In) (ha : RdR inE 8 w0 a n is) (b e : Bool) (hin : Inside is) (g cap : Nat) : ∀ (f : Nat) (bs : List Bool) (p : Nat) (w : World), p < n → unM bs < f → OwnR bE 1 4 w w0.heap.size (.slice (some ⟨g, 0, none⟩) n cap) n bs → Below w0.heap.size w0 w →
    Calls Try.prog 185 #[.slice a n ca, .slice (some ⟨g, 0, none⟩) n cap, .int .i64 (p : Int), .bool b, .bool e] w fun r w' => r = .returned (.tuple #[]) ∧ OwnR bE 1 4 w' w0.heap.size (.slice (some ⟨g, 0, none⟩) n cap) n (dfs (tgS b e) is f bs p) ∧ Below w0.heap.size w0 w'
  | 0, bs, p, w, hp, hu, ho, hbw => by omega
  | f + 1, bs, p, w, hp, hu, hown, hbw => by
    have ih := fun bs' p' w' => l7Reach_any w0 a n ca is ha b e hin g cap f bs' p' w'
    have HLN : Hid _ := ha.1
    have HL : Hid _ := hown.1
    have HG : Hid _ := (goes_of hin b e).2
    have hp' : (p : Int) < (n : Int) := by omega
    have hcell := OwnR.cell (f := 0) bE_len hown (getD_of (bs := bs) (p := p) (by rw [HL.out]; exact hp)) rfl
    have hfr := hown.frozen p
    rw [Nat.mul_one, Nat.add_zero] at hcell
    obtain ⟨B, hB⟩ : ∃ B, B = dfs (tgS b e) is (f + 1) bs p := ⟨_, rfl⟩
    rw [← hB]
    cases hm : bs.getD p false
    case true =>
      rw [dfsS_marked hm] at hB
      subst hB
      rw [hm] at hcell
      have HO : Hid _ := hown
      clear hm hu hown ih
      go_enter Try.func185, Try.ntmps185
      go_wp2
      exact bodyPost_ret (v := .tuple #[]) (by simp [results, Try.results185, go_sem]) rfl ⟨rfl, HO.out, hbw⟩
    obtain ⟨b1, o1, i, rfl, hx, hc1⟩ := ha.at hp
    have HX : Hid _ := hx
    have hI := hin i (List.mem_of_getElem? hx)
    have hum := unM_set (bs := bs) (p := p) (by rw [HL.out]; exact hp) hm
    rw [hm] at hcell
    have hst := OwnR.store (f := 0) (u := .bool true) (y := true) bE_len hown (getD_of (bs := bs) (p := p) (by rw [HL.out]; exact hp)) (by omega) rfl
    rw [Nat.mul_one, Nat.add_zero] at hst
    have hgl : w0.heap.size ≤ g := (hown.lt g rfl).1
    have HO1 : Hid _ := hst.1
    have hbw1 : Below w0.heap.size w0 (w.setCell ⟨g, p, none⟩ (.bool true)) := hbw.setCell hgl _
    have HW1 : Hid _ := hbw1
    have hl1 : (bs.set p true).length = n := by rw [List.length_set]; exact HL.out
    obtain ⟨c0, c1, c2, c3, c4, c5, c6, c7⟩ := eight (fun f v hv => cell_later hbw1 (hc1 f v hv))
    obtain ⟨e0, e1, e2, e3, e4, e5, e6, e7⟩ := eight hc1
    clear hc1 hst hown hbw1 c1 c2 c3 c4 c5 e1 e2 e3 e4 e5
    obtain ⟨o, k, c, s, l, r, x, y⟩ := i
    simp only at c0 c6 c7 e0 e6 e7 hI
    obtain ⟨⟨hx0, hxn⟩, ⟨hy0, hyn⟩⟩ := hI
    obtain ⟨xn, rfl⟩ : ∃ q : Nat, x = (q : Int) := ⟨x.toNat, by omega⟩
    obtain ⟨yn, rfl⟩ : ∃ q : Nat, y = (q : Int) := ⟨y.toNat, by omega⟩
    have hxn' : xn < n := by have := HLN.out; omega
    have hyn' : yn < n := by have := HLN.out; omega
    by_cases ho2 : o = 2
    case pos =>
      subst ho2
      have da := dfs_dfs HG.out f (bs.set p true) xn (by rw [HLN.out, hl1]; omega) (by rw [hl1]; exact hxn') (by omega)
      have ua := da.un
      have la := da.len
      have Ca := fun w' => ih (bs.set p true) xn w' hxn' (by omega)
      have Cb := fun w' => ih (dfs (tgS b e) is f (bs.set p true) xn) yn w' hyn' (by omega)
      have hr := dfsS_two (b := b) (e := e) (f := f) hm HX.out rfl
      simp only [Int.toNat_natCast] at hr
      rw [← hr, ← hB] at Cb
      generalize dfs (tgS b e) is f (bs.set p true) xn = B2 at Ca Cb
      have HCa : Hid _ := Ca
      have HCb : Hid _ := Cb
      clear Ca Cb da ua la hr hB hm hum hu hl1 ih hx
      go_enter Try.func185, Try.ntmps185
      go_wp2_with fail
      refine (HCa.out _ HO1.out HW1.out).mono ?_
      rintro r' w2 ⟨rfl, ho2, hb2⟩
      have g0 := cell_later hb2 e0
      have g7 := cell_later hb2 e7
      go_wp2_with fail
      refine (HCb.out _ ho2 hb2).mono ?_
      rintro r'' w3 ⟨rfl, ho3, hb3⟩
      go_wp2
      exact bodyPost_end (v := .tuple #[]) (by simp [results, Try.results185, go_sem]) rfl ⟨rfl, ho3, hb3⟩
    by_cases ho3 : o = 3
    case pos =>
      subst ho3
      have Ca := fun w' => ih (bs.set p true) xn w' hxn' (by omega)
      have hr := dfsS_one (b := b) (e := e) (f := f) hm HX.out (by simp) (by simp [goesX])
      simp only [Int.toNat_natCast] at hr
      rw [← hr, ← hB] at Ca
      have HCa : Hid _ := Ca
      clear Ca hr hB hm hum hu hl1 ih hx
      go_enter Try.func185, Try.ntmps185
      go_wp2_with fail
      refine (HCa.out _ HO1.out HW1.out).mono ?_
      rintro r' w2 ⟨rfl, ho2, hb2⟩
      have g0 := cell_later hb2 e0
      go_wp2
      exact bodyPost_end (v := .tuple #[]) (by simp [results, Try.results185, go_sem]) rfl ⟨rfl, ho2, hb2⟩
    by_cases ho4 : o = 4
    case pos =>
      subst ho4
      cases b
      case true =>
        have Ca := fun w' => ih (bs.set p true) xn w' hxn' (by omega)
        have hr := dfsS_one (b := true) (e := e) (f := f) hm HX.out (by simp) (by simp [goesX])
        simp only [Int.toNat_natCast] at hr
        rw [← hr, ← hB] at Ca
        have HCa : Hid _ := Ca
        clear Ca hr hB hm hum hu hl1 ih hx
        go_enter Try.func185, Try.ntmps185
        go_wp2_with fail
        refine (HCa.out _ HO1.out HW1.out).mono ?_
        rintro r' w2 ⟨rfl, ho2, hb2⟩
        have g0 := cell_later hb2 e0
        go_wp2
        exact bodyPost_end (v := .tuple #[]) (by simp [results, Try.results185, go_sem]) rfl ⟨rfl, ho2, hb2⟩
      case false =>
        have hr := dfsS_end (b := false) (e := e) (f := f) hm HX.out (by simp) (by simp [goesX])
        have HBB : Hid (B = bs.set p true) := hB.trans hr
        clear hr hB hm hum hu hl1 ih hx
        go_enter Try.func185, Try.ntmps185
        go_wp2
        exact bodyPost_end (v := .tuple #[]) (by simp [results, Try.results185, go_sem]) rfl ⟨rfl, by rw [HBB.out]; exact HO1.out, HW1.out⟩
    by_cases ho5 : o = 5
    case pos =>
      subst ho5
      cases e
      case true =>
        have Ca := fun w' => ih (bs.set p true) xn w' hxn' (by omega)
        have hr := dfsS_one (b := b) (e := true) (f := f) hm HX.out (by simp) (by simp [goesX])
        simp only [Int.toNat_natCast] at hr
        rw [← hr, ← hB] at Ca
        have HCa : Hid _ := Ca
        clear Ca hr hB hm hum hu hl1 ih hx
        go_enter Try.func185, Try.ntmps185
        go_wp2_with fail
        refine (HCa.out _ HO1.out HW1.out).mono ?_
        rintro r' w2 ⟨rfl, ho2, hb2⟩
        have g0 := cell_later hb2 e0
        go_wp2
        exact bodyPost_end (v := .tuple #[]) (by simp [results, Try.results185, go_sem]) rfl ⟨rfl, ho2, hb2⟩
      case false =>
        have hr := dfsS_end (b := b) (e := false) (f := f) hm HX.out (by simp) (by simp [goesX])
        have HBB : Hid (B = bs.set p true) := hB.trans hr
        clear hr hB hm hum hu hl1 ih hx
        go_enter Try.func185, Try.ntmps185
        go_wp2
        exact bodyPost_end (v := .tuple #[]) (by simp [results, Try.results185, go_sem]) rfl ⟨rfl, by rw [HBB.out]; exact HO1.out, HW1.out⟩
    have ho2' : (o == 2) = false := by simpa using ho2
    have ho3' : (o == 3) = false := by simpa using ho3
    have ho4' : (o == 4) = false := by simpa using ho4
    have ho5' : (o == 5) = false := by simpa using ho5
    have hr := dfsS_end (b := b) (e := e) (f := f) hm HX.out ho2 (by simp [goesX, ho2, ho3, ho4, ho5])
    have HBB : Hid (B = bs.set p true) := hB.trans hr
    clear hr hB hm hum hu hl1 ih hx
    go_enter Try.func185, Try.ntmps185
    go_wp2
    exact bodyPost_end (v := .tuple #[]) (by simp [results, Try.results185, go_sem]) rfl ⟨rfl, by rw [HBB.out]; exact HO1.out, HW1.out⟩

theorem info64p : (Try.prog.info? 2).map (fun i => (i.zero, i.size, i.bytes)) = some (some (.int .i64 0), 1, 8) := by kernel_rfl

set_option maxHeartbeats 1600000 in
set_option maxRecDepth 20000 in
theorem l7Places_any (a : Option Addr) (n ca : Nat) (bs : List Bool) (w : World) (ha : RdR bE 1 w a n bs) (h1 : n ≤ 1048576) :
    Calls Try.prog 186 #[.slice a n ca] w fun r w' => ∃ v, r = .returned v ∧ Own .i64 2 w' w.heap.size v (placesOf bs).length (placesOf bs) ∧ Below w.heap.size w w' := by
  obtain ⟨i0, hi, hz0, hz1, hz2⟩ := info_parts info64p
  have HL : Hid _ := ha.1
  have hb0 : ∀ o, Below w.heap.size w (w.alloc o) := fun o => (Below.refl _ _).alloc (Nat.le_refl _) o
  go_enter Try.func186, Try.ntmps186
  go_wp2
  go_loopw [3, 4] (fun x i wr => ∃ k : Nat, k ≤ n ∧ i = .int .i64 k ∧ Own .i64 2 wr w.heap.size x (placesTo bs k).length (placesTo bs k) ∧ Below w.heap.size w wr) (fun _ i _ => n - (intOf i).toNat)
  case atStart => exact ⟨0, Nat.zero_le _, rfl, own_lit w #[] 0 w.heap.size [] rfl rfl (Nat.le_refl _) (by simp [maxLen]), hb0 _⟩
  case round =>
    obtain ⟨k, hk, rfl, ho, hbw⟩ := hrel
    clear hb0
    by_cases hlt : k < n
    · have hlt' : (k : Int) < (n : Int) := by omega
      obtain ⟨b1, o1, bb, rfl, hx, hc1⟩ := (ha.below hbw).at hlt
      have hc := hc1 0 _ rfl
      rw [Nat.mul_one, Nat.add_zero] at hc
      have hbk : bs.getD k false = bb := by simp [List.getD_eq_getElem?_getD, hx]
      have hlen := placesTo_len bs k
      clear hx hc1
      cases bb
      · have hno := placesTo_no hbk
        rw [← hno] at ho
        have HO : Hid _ := ho
        clear ho hno hbk hlen
        go_wp2
        go_roundw
        case rel => exact ⟨k + 1, by omega, by go_num, HO, hbw⟩
        case measure => simp [intOf]; omega
      · have hyes := placesTo_yes hbk
        have HY : Hid _ := hyes
        obtain ⟨va, vc, hv, hrd, hvm⟩ := ho.rd
        subst hv
        have lo := ho.lt
        clear hyes hbk
        go_wp2_with (at_builtin; refine wpList_append_rd rfl _ _ 60 rfl .i64 w.heap.size 2 i0 8 Try.underlying60 hi hz0 hz1 hz2 _ _ (placesTo bs k) rfl (World.ownsRow.alloc ho _) (some ⟨wr.heap.size, 0, none⟩) 1 1 [(k : Int)] rfl (lit5_rd wr [(k : Int)] 1 rfl (by simp [maxLen])) (by simp [maxLen]; omega) (by omega) (by have := hbw.size; simp; omega) ?_)
        intro v5 w5 ho5 hg5
        have hb5 : Below w.heap.size w w5 := (hbw.alloc hbw.size _).grown hg5 (by have := hbw.size; simp; omega) (fun j hj => (lo j hj).1)
        have hln : (placesTo bs k).length + 1 = (placesTo bs (k + 1)).length := by rw [HY.out]; simp
        rw [← HY.out, hln] at ho5
        have HO5 : Hid _ := ho5
        clear ho5 hln ho hg5 lo hrd hvm hlen
        go_wp2
        go_roundw
        case rel => exact ⟨k + 1, by omega, by go_num, HO5, hb5⟩
        case measure => simp [intOf]; omega
    · go_wp2
      go_ret
      obtain rfl : k = n := by omega
      have e : placesOf bs = placesTo bs k := by unfold placesOf; rw [HL.out]
      refine ⟨_, rfl, ?_, hbw⟩
      rw [e]
      exact ho
end Go.Proofs.Ytocophekfbhfbaa

namespace Go.Proofs.Ytocophekfbhfbaa
open Go.RowKit
set_option linter.unusedVariables false
set_option linter.unusedSimpArgs false

theorem infoB : (Try.prog.info? 4).map (fun i => (i.zero, i.size, i.bytes)) = some (some (.bool false), 1, 1) := by kernel_rfl

theorem madeB (n : Nat) : (madeCells #[Value.bool false] (n * 1)).toList = (List.replicate n false).flatMap bE := by
  rw [Nat.mul_one]
  apply List.ext_getElem?
  intro j
  by_cases hj : j < n
  · have h := getElem?_flatMap bE 1 bE_len (List.replicate n false) j 0 false (by simp [hj]) (by omega)
    rw [Nat.mul_one, Nat.add_zero] at h
    rw [h]
    simp [madeCells, hj, bE, Nat.mod_one]
  · have h2 := length_flatMap' bE 1 bE_len (List.replicate n false)
    rw [List.getElem?_eq_none (by simp [madeCells]; omega), List.getElem?_eq_none (by rw [h2]; simp; omega)]

theorem dfsAll_take {tg : In → Option Nat × Option Nat} {is : List In} {bs : List Bool} {xs : List Int} {k : Nat} (h : k < xs.length) : dfsAll tg is bs (xs.take (k + 1)) = dfs tg is 81 (dfsAll tg is bs (xs.take k)) (xs.getD k 0).toNat := by
  unfold dfsAll
  rw [List.take_succ_eq_append_getElem h, List.foldl_append, List.foldl_cons, List.foldl_nil, List.getD_eq_getElem?_getD, List.getElem?_eq_getElem h, Option.getD_some]

theorem getD_mem' {xs : List Int} {k : Nat} (h : k < xs.length) : xs.getD k 0 ∈ xs := by
  rw [List.getD_eq_getElem?_getD, List.getElem?_eq_getElem h, Option.getD_some]
  exact List.getElem_mem h

set_option maxHeartbeats 3200000 in
set_option maxRecDepth 20000 in
theorem l7Close_any (a : Option Addr) (n ca : Nat) (is : List In) (x : Option Addr) (m cx : Nat) (xs : List Int) (b e : Bool) (hin : Inside is) (h1 : 1 ≤ n) (h2 : n ≤ 80) (hm : m ≤ 1048576) (hxs : ∀ q ∈ xs, 0 ≤ q ∧ q < n) (w : World) (ha : RdR inE 8 w a n is) (hx : Rd .i64 w x m xs) :
    Calls Try.prog 108 #[.slice a n ca, .slice x m cx, .bool b, .bool e] w fun r w' => ∃ v, r = .returned v ∧ Own .i64 2 w' w.heap.size v (placesOf (closeS is b e xs)).length (placesOf (closeS is b e xs)) ∧ Below w.heap.size w w' := by
  obtain ⟨i0, hi, hz0, hz1, hz2⟩ := info_parts infoB
  have HLN : Hid _ := ha.1
  have HLX : Hid _ := hx.1
  have HXS : Hid _ := hxs
  have HG : Hid _ := (goes_of hin b e).2
  clear hxs
  go_enter Try.func108, Try.ntmps108
  go_wp2_with (at_make; refine wpList_make_full _ rfl _ _ 248 rfl w.heap.size 4 i0 (.bool false) 1 Try.underlying248 hi hz0 hz1 _ _ _ _ n rfl rfl rfl rfl (by rw [hz2]; omega) (by unfold maxLen; omega) (Nat.le_refl _) ?_)
  intro w1 hown1 hgrow1
  have ho1 : OwnR bE 1 4 w1 w.heap.size (.slice (some ⟨w.heap.size, 0, none⟩) n n) n (List.replicate n false) := by
    refine ⟨by simp, ?_⟩
    rw [← madeB]
    simpa [Value.cells] using hown1
  have hb1 : Below w.heap.size w w1 := (Below.refl _ _).grown hgrow1 (Nat.le_refl _) (by simp)
  have HO1 : Hid (OwnR bE 1 4 w1 w.heap.size (.slice (some ⟨w.heap.size, 0, none⟩) n n) n (dfsAll (tgS b e) is (List.replicate n false) (xs.take 0))) := ho1
  clear hown1 hgrow1 ho1
  go_wp2
  go_loopw [10] (fun i wr => ∃ k : Nat, k ≤ m ∧ i = .int .i64 k ∧ Hid (OwnR bE 1 4 wr w.heap.size (.slice (some ⟨w.heap.size, 0, none⟩) n n) n (dfsAll (tgS b e) is (List.replicate n false) (xs.take k))) ∧ Below w.heap.size w wr) (fun i _ => m - (intOf i).toNat)
  case atStart => exact ⟨0, Nat.zero_le _, rfl, HO1, hb1⟩
  case round =>
    obtain ⟨k, hk, rfl, HO, hbw⟩ := hrel
    clear HO1 hb1
    by_cases hlt : k < m
    · have hlt' : (k : Int) < (m : Int) := by omega
      have hkx : k < xs.length := by rw [HLX.out]; exact hlt
      obtain ⟨b1, o1, rfl, hc1⟩ := (hx.below hbw).at hlt
      have ck := hc1 k hlt
      have hq := HXS.out _ (getD_mem' hkx)
      have hnext := dfsAll_take (tg := tgS b e) (is := is) (bs := List.replicate n false) hkx
      have hl := HO.out.1
      have hu := unM_le (dfsAll (tgS b e) is (List.replicate n false) (xs.take k))
      have hC := fun w' h h' => l7Reach_any w a n ca is ha b e hin w.heap.size n 81 (dfsAll (tgS b e) is (List.replicate n false) (xs.take k)) (xs.getD k 0).toNat w' (by omega) (by omega) h h'
      rw [← hnext] at hC
      have e2 : (((xs.getD k 0).toNat : Nat) : Int) = xs.getD k 0 := by omega
      rw [e2] at hC
      generalize xs.getD k 0 = q at ck hC
      have HC : Hid _ := hC
      clear hc1 hq hnext hl hu hC e2
      go_wp2_with fail
      refine (HC.out _ HO.out hbw).mono ?_
      rintro r w2 ⟨rfl, ho2, hb2⟩
      have HO2 : Hid _ := ho2
      clear ho2
      go_wp2
      go_roundw
      case rel => exact ⟨k + 1, by omega, by go_num, HO2, hb2⟩
      case measure => simp [intOf]; omega
    · obtain rfl : k = m := by omega
      have hO := HO.out
      rw [List.take_of_length_le (by rw [HLX.out]; omega)] at hO
      have HP : Hid _ := l7Places_any (some ⟨w.heap.size, 0, none⟩) n n _ wr (hO.read bE_len) (by omega)
      have e3 : closeS is b e xs = dfsAll (tgS b e) is (List.replicate n false) xs := by unfold closeS; rw [HLN.out]
      have HE : Hid _ := e3
      clear HO hO e3
      go_wp2_with fail
      refine Calls.mono HP.out ?_
      rintro r w2 ⟨v, rfl, ho2, hb2⟩
      go_wp2
      go_ret
      rw [HE.out]
      exact ⟨_, rfl, ho2.up hbw.size, hbw.trans (hb2.mono hbw.size)⟩

theorem stepFold_take {is : List In} {d : Int} {bs : List Bool} {xs : List Int} {k : Nat} (h : k < xs.length) : (xs.take (k + 1)).foldl (stepGo is d) bs = stepGo is d ((xs.take k).foldl (stepGo is d) bs) (xs.getD k 0) := by
  rw [List.take_succ_eq_append_getElem h, List.foldl_append, List.foldl_cons, List.foldl_nil, List.getD_eq_getElem?_getD, List.getElem?_eq_getElem h, Option.getD_some]

set_option maxHeartbeats 3200000 in
set_option maxRecDepth 20000 in
theorem l7Step_any (a : Option Addr) (n ca : Nat) (is : List In) (x : Option Addr) (m cx : Nat) (xs : List Int) (d : Int) (hd0 : 0 ≤ d) (hd1 : d < 256) (hin : Inside is) (hs : inSum is ≤ 1048576) (h1 : 1 ≤ n) (h2 : n ≤ 80) (hm : m ≤ 1048576) (hxs : ∀ q ∈ xs, 0 ≤ q ∧ q < n) (w : World) (ha : RdR inE 8 w a n is) (hx : Rd .i64 w x m xs) :
    Calls Try.prog 111 #[.slice a n ca, .slice x m cx, .int .u8 d] w fun r w' => ∃ v, r = .returned v ∧ Own .i64 2 w' w.heap.size v (placesOf (stepS is d xs)).length (placesOf (stepS is d xs)) ∧ Below w.heap.size w w' := by
  obtain ⟨i0, hi, hz0, hz1, hz2⟩ := info_parts infoB
  have HLN : Hid _ := ha.1
  have HLX : Hid _ := hx.1
  have HXS : Hid _ := hxs
  have HSS : Hid _ := hs
  clear hxs hs
  go_enter Try.func111, Try.ntmps111
  go_wp2_with (at_make; refine wpList_make_full _ rfl _ _ 248 rfl w.heap.size 4 i0 (.bool false) 1 Try.underlying248 hi hz0 hz1 _ _ _ _ n rfl rfl rfl rfl (by rw [hz2]; omega) (by unfold maxLen; omega) (Nat.le_refl _) ?_)
  intro w1 hown1 hgrow1
  have ho1 : OwnR bE 1 4 w1 w.heap.size (.slice (some ⟨w.heap.size, 0, none⟩) n n) n (List.replicate n false) := by
    refine ⟨by simp, ?_⟩
    rw [← madeB]
    simpa [Value.cells] using hown1
  have hb1 : Below w.heap.size w w1 := (Below.refl _ _).grown hgrow1 (Nat.le_refl _) (by simp)
  have HO1 : Hid (OwnR bE 1 4 w1 w.heap.size (.slice (some ⟨w.heap.size, 0, none⟩) n n) n ((xs.take 0).foldl (stepGo is d) (List.replicate n false))) := ho1
  clear hown1 hgrow1 ho1
  go_wp2
  go_loopw [8] (fun i wr => ∃ k : Nat, k ≤ m ∧ i = .int .i64 k ∧ Hid (OwnR bE 1 4 wr w.heap.size (.slice (some ⟨w.heap.size, 0, none⟩) n n) n ((xs.take k).foldl (stepGo is d) (List.replicate n false))) ∧ Below w.heap.size w wr) (fun i _ => m - (intOf i).toNat)
  case atStart => exact ⟨0, Nat.zero_le _, rfl, HO1, hb1⟩
  case round =>
    obtain ⟨k, hk, rfl, HO, hbw⟩ := hrel
    clear HO1 hb1
    by_cases hlt : k < m
    · have hlt' : (k : Int) < (m : Int) := by omega
      have hkx : k < xs.length := by rw [HLX.out]; exact hlt
      obtain ⟨b2, o2, rfl, hc2⟩ := (hx.below hbw).at hlt
      have ck := hc2 k hlt
      have hq := HXS.out _ (getD_mem' hkx)
      have HN : Hid _ := stepFold_take (is := is) (d := d) (bs := List.replicate n false) hkx
      clear hc2 hkx
      generalize xs.getD k 0 = Q at ck hq HN
      obtain ⟨q, rfl⟩ : ∃ q : Nat, Q = (q : Int) := ⟨Q.toNat, by omega⟩
      have hqn : q < n := by omega
      have hqn' : (q : Int) < (n : Int) := by omega
      obtain ⟨b1, o1, i, rfl, hxi, hc1⟩ := (ha.below hbw).at hqn
      obtain ⟨c0, c1, c2, c3, c4, c5, c6, c7⟩ := eight hc1
      have hI := hin i (List.mem_of_getElem? hxi)
      have hsz := inSum_at (List.mem_of_getElem? hxi)
      have hss := HSS.out
      have hgo := stepGo_at (d := d) (b := (xs.take k).foldl (stepGo is d) (List.replicate n false)) hxi
      have HH : Hid _ := l5Byte_any b1 (o1 + q * 8 + 1) i.nd d wr (show i.s.size ≤ 1073741824 by omega) c1 c2 c3 hd0 hd1
      rw [← HN.out] at hgo
      have hlO := HO.out.1
      clear hq HN hxi hc1 hsz hss
      obtain ⟨B2, hB2⟩ : ∃ B2, (xs.take (k + 1)).foldl (stepGo is d) (List.replicate n false) = B2 := ⟨_, rfl⟩
      rw [hB2] at hgo
      have HB2 : Hid _ := hB2
      clear hB2
      generalize (xs.take k).foldl (stepGo is d) (List.replicate n false) = B1 at hgo HO hlO
      obtain ⟨o, kk, c, s, l, r, x, y⟩ := i
      simp only [In.nd] at c0 c1 c2 c3 c4 c5 c6 c7 HH hI
      obtain ⟨⟨hx0, hxn⟩, -⟩ := hI
      obtain ⟨xn, rfl⟩ : ∃ p : Nat, x = (p : Int) := ⟨x.toNat, by omega⟩
      have hxn' : xn < n := by have := HLN.out; omega
      by_cases ho : o = 1
      case neg =>
        have ho' : (o == 1) = false := by simpa using ho
        rw [if_neg (fun h => ho h.1)] at hgo
        rw [← hgo] at HO
        clear hgo HH
        go_wp2
        go_roundw
        case rel => exact ⟨k + 1, by omega, by go_num, (by rw [HB2.out]; exact HO), hbw⟩
        case measure => simp [intOf]; omega
      subst ho
      obtain ⟨H, hH⟩ : ∃ H, H = hasB ⟨kk, c, s, l, r⟩ d := ⟨_, rfl⟩
      rw [← hH] at HH
      have hgo2 : B2 = if H = true then B1.set xn true else B1 := by rw [hgo, hH]; simp [In.nd]
      clear hgo hH
      cases H
      · have hgo3 : B2 = B1 := by rw [hgo2]; rfl
        rw [← hgo3] at HO
        clear hgo2 hgo3
        go_wp2_with fail
        refine Calls.mono HH.out ?_
        rintro r' w2 ⟨rfl, hb2⟩
        have HO2 : Hid (OwnR bE 1 4 w2 w.heap.size (.slice (some ⟨w.heap.size, 0, none⟩) n n) n B2) := HO.out.below hb2
        have hb02 := hbw.trans (hb2.mono hbw.size)
        clear hb2
        go_wp2
        go_roundw
        case rel => exact ⟨k + 1, by omega, by go_num, (by rw [HB2.out]; exact HO2), hb02⟩
        case measure => simp [intOf]; omega
      · have hgo3 : B2 = B1.set xn true := by rw [hgo2]; rfl
        have hxn2 : (xn : Int) < (n : Int) := by omega
        go_wp2_with fail
        refine Calls.mono HH.out ?_
        rintro r' w2 ⟨rfl, hb2⟩
        have hO2 : OwnR bE 1 4 w2 w.heap.size (.slice (some ⟨w.heap.size, 0, none⟩) n n) n B1 := HO.out.below hb2
        have hb02 := hbw.trans (hb2.mono hbw.size)
        have ci := cell_later hb2 c6
        have hcell := OwnR.cell (f := 0) bE_len hO2 (getD_of (bs := B1) (p := xn) (by rw [hlO]; exact hxn')) rfl
        have hfr := hO2.frozen xn
        have hst := OwnR.store (f := 0) (u := .bool true) (y := true) bE_len hO2 (getD_of (bs := B1) (p := xn) (by rw [hlO]; exact hxn')) (by omega) rfl
        rw [Nat.mul_one, Nat.add_zero] at hcell hst
        rw [← hgo3] at hst
        have HO2 : Hid _ := hst.1
        have hb03 : Below w.heap.size w (w2.setCell ⟨w.heap.size, xn, none⟩ (.bool true)) := hb02.setCell (Nat.le_refl _) _
        generalize B1.getD xn false = bb at hcell
        clear hb2 hO2 hst hgo2 hgo3 hb02
        go_wp2
        go_roundw
        case rel => exact ⟨k + 1, by omega, by go_num, (by rw [HB2.out]; exact HO2), hb03⟩
        case measure => simp [intOf]; omega
    · obtain rfl : k = m := by omega
      have hO := HO.out
      rw [List.take_of_length_le (by rw [HLX.out]; omega)] at hO
      have HP : Hid _ := l7Places_any (some ⟨w.heap.size, 0, none⟩) n n _ wr (hO.read bE_len) (by omega)
      have e3 : stepS is d xs = xs.foldl (stepGo is d) (List.replicate n false) := by unfold stepS; rw [HLN.out]
      have HE : Hid _ := e3
      clear HO hO e3
      go_wp2_with fail
      refine Calls.mono HP.out ?_
      rintro r w2 ⟨v, rfl, ho2, hb2⟩
      go_wp2
      go_ret
      rw [HE.out]
      exact ⟨_, rfl, ho2.up hbw.size, hbw.trans (hb2.mono hbw.size)⟩

set_option maxHeartbeats 1600000 in
set_option maxRecDepth 20000 in
theorem l7Done_any (a : Option Addr) (n ca : Nat) (is : List In) (x : Option Addr) (m cx : Nat) (xs : List Int) (h2 : n ≤ 80) (hm : m ≤ 1048576) (hxs : ∀ q ∈ xs, 0 ≤ q ∧ q < n) (w : World) (ha : RdR inE 8 w a n is) (hx : Rd .i64 w x m xs) :
    Calls Try.prog 198 #[.slice a n ca, .slice x m cx] w fun r w' => r = .returned (.bool (doneL is xs)) ∧ Below w.heap.size w w' := by
  obtain ⟨R, hR⟩ : ∃ R, R = doneL is xs := ⟨_, rfl⟩
  rw [← hR]
  have HR : Hid _ := hR
  have HLX : Hid _ := hx.1
  have HXS : Hid _ := hxs
  clear hR hxs
  go_enter Try.func198, Try.ntmps198
  go_wp2
  go_loopw [5] (fun i wr => ∃ k : Nat, k ≤ m ∧ i = .int .i64 k ∧ Hid (doneL is (xs.take k) = false) ∧ Below w.heap.size w wr) (fun i _ => m - (intOf i).toNat)
  case atStart => exact ⟨0, Nat.zero_le _, rfl, (rfl : doneL is (xs.take 0) = false), Below.refl _ _⟩
  case round =>
    obtain ⟨k, hk, rfl, HD, hbw⟩ := hrel
    by_cases hlt : k < m
    · have hlt' : (k : Int) < (m : Int) := by omega
      have hkx : k < xs.length := by rw [HLX.out]; exact hlt
      obtain ⟨b2, o2, rfl, hc2⟩ := (hx.below hbw).at hlt
      have ck := hc2 k hlt
      have hmem := getD_mem' hkx
      have hq := HXS.out _ hmem
      have hnx : doneL is (xs.take (k + 1)) = isDn is (xs.getD k 0) := by
        have hd := HD.out
        unfold doneL at hd ⊢
        rw [List.take_succ_eq_append_getElem hkx, List.any_append, hd, List.getD_eq_getElem?_getD, List.getElem?_eq_getElem hkx]
        simp
      clear hc2 hkx
      generalize xs.getD k 0 = Q at ck hq hnx hmem
      obtain ⟨q, rfl⟩ : ∃ q : Nat, Q = (q : Int) := ⟨Q.toNat, by omega⟩
      have hqn : q < n := by omega
      have hqn' : (q : Int) < (n : Int) := by omega
      obtain ⟨b1, o1, i, rfl, hxi, hc1⟩ := (ha.below hbw).at hqn
      obtain ⟨c0, c1, c2, c3, c4, c5, c6, c7⟩ := eight hc1
      have hdn := isDn_at hxi
      rw [hdn] at hnx
      have HM : Hid _ := And.intro hmem hdn
      clear hxi hc1 hq hmem hdn HD
      obtain ⟨o, kk, c, s, l, r, x, y⟩ := i
      simp only at c0 c1 c2 c3 c4 c5 c6 c7 hnx HM
      by_cases ho : o = 6
      · subst ho
        have hfin : true = R := by
          rw [HR.out]
          unfold doneL
          rw [eq_comm, List.any_eq_true]
          exact ⟨(q : Int), HM.out.1, by rw [HM.out.2]; rfl⟩
        clear hnx HM HR
        subst hfin
        go_wp2
        go_ret
        exact ⟨rfl, hbw⟩
      · have ho' : (o == 6) = false := by simpa using ho
        rw [decide_eq_false ho] at hnx
        have HD2 : Hid (doneL is (xs.take (k + 1)) = false) := hnx
        clear hnx HM
        go_wp2
        go_roundw
        case rel => exact ⟨k + 1, by omega, by go_num, HD2, hbw⟩
        case measure => simp [intOf]; omega
    · obtain rfl : k = m := by omega
      have hd := HD.out
      rw [List.take_of_length_le (by rw [HLX.out]; omega)] at hd
      have hfin : false = R := by rw [HR.out, hd]
      clear HR hd HD
      subst hfin
      go_wp2
      go_ret
      exact ⟨rfl, hbw⟩
end Go.Proofs.Ytocophekfbhfbaa
