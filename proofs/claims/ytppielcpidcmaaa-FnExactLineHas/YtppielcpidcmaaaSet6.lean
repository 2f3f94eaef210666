/-
  Chapter 7: the specification's sets: l7Reach, l7Places.
-/
import Derived.Test.YtppielcpidcmaaaSetA
import Derived.Test.YtppielcpidcmaaaAppend
import Derived.Test.YtppielcpidcmaaaProg1
namespace Go.Proofs.Ytppielcpidcmaaa
open Go.RowKit
set_option linter.unusedVariables false
set_option linter.unusedSimpArgs false

/-- A bool's one cell. -/
def bE (b : Bool) : List Value := [.bool b]
theorem bE_len (b : Bool) : (bE b).length = 1 := rfl

theorem dfsS_marked {tg : In → Option Nat × Option Nat} {is : List In} {f : Nat} {bs : List Bool} {p : Nat} (h : bs.getD p false = true) : dfs tg is (f + 1) bs p = bs := by
  unfold dfs; rw [if_pos h]
theorem dfsS_two {b e : Bool} {is : List In} {f : Nat} {bs : List Bool} {p : Nat} {i : In} (h : bs.getD p false = false) (hi : is[p]? = some i) (ho : i.o = 2) :
    dfs (tgS b e) is (f + 1) bs p = dfs (tgS b e) is f (dfs (tgS b e) is f (bs.set p true) i.x.toNat) i.y.toNat := by
  rw [dfs, if_neg (by rw [h]; simp), hi]
  simp [tgS, ho, goesX]
theorem dfsS_one {b e : Bool} {is : List In} {f : Nat} {bs : List Bool} {p : Nat} {i : In} (h : bs.getD p false = false) (hi : is[p]? = some i) (ho : i.o ≠ 2) (hg : goesX b e i = true) :
    dfs (tgS b e) is (f + 1) bs p = dfs (tgS b e) is f (bs.set p true) i.x.toNat := by
  rw [dfs, if_neg (by rw [h]; simp), hi]
  simp [tgS, ho, hg]
theorem dfsS_end {b e : Bool} {is : List In} {f : Nat} {bs : List Bool} {p : Nat} {i : In} (h : bs.getD p false = false) (hi : is[p]? = some i) (ho : i.o ≠ 2) (hg : goesX b e i = false) :
    dfs (tgS b e) is (f + 1) bs p = bs.set p true := by
  rw [dfs, if_neg (by rw [h]; simp), hi]
  simp [tgS, ho, hg]

theorem getD_of {bs : List Bool} {p : Nat} (h : p < bs.length) : bs[p]? = some (bs.getD p false) := by
  simp [List.getD_eq_getElem?_getD, h]

set_option maxHeartbeats 6400000 in
set_option maxRecDepth 20000 in
theorem l7Reach_any (w0 : World) (a : Option Addr) (n ca : Nat) (is : List In) (ha : RdR inE 8 w0 a n is) (b e : Bool) (hin : Inside is) (g cap : Nat) : ∀ (f : Nat) (bs : List Bool) (p : Nat) (w : World), p < n → unM bs < f → OwnR bE 1 4 w w0.heap.size (.slice (some ⟨g, 0, none⟩) n cap) n bs → Below w0.heap.size w0 w →
    Calls Try.prog 114 #[.slice a n ca, .slice (some ⟨g, 0, none⟩) n cap, .int .i64 (p : Int), .bool b, .bool e] w fun r w' => r = .returned (.tuple #[]) ∧ OwnR bE 1 4 w' w0.heap.size (.slice (some ⟨g, 0, none⟩) n cap) n (dfs (tgS b e) is f bs p) ∧ Below w0.heap.size w0 w'
  | 0, bs, p, w, hp, hu, ho, hbw => by omega
  | f + 1, bs, p, w, hp, hu, hown, hbw => by
    have ih := fun bs' p' w' => l7Reach_any w0 a n ca is ha b e hin g cap f bs' p' w'
    have HLN : Hid _ := ha.1
    have HL : Hid _ := hown.1
    have HG : Hid _ := (goes_of hin b e).2
    have hp' : (p : Int) < (n : Int) := by omega
    have hcell := OwnR.cell (f := 0) bE_len hown (getD_of (bs := bs) (p := p) (by rw [HL.out]; exact hp)) rfl
    have hfr := hown.frozen p
    rw [Nat.mul_one, Nat.add_zero] at hcell
    obtain ⟨B, hB⟩ : ∃ B, B = dfs (tgS b e) is (f + 1) bs p := ⟨_, rfl⟩
    rw [← hB]
    cases hm : bs.getD p false
    case true =>
      rw [dfsS_marked hm] at hB
      subst hB
      rw [hm] at hcell
      have HO : Hid _ := hown
      clear hm hu hown ih
      go_enter Try.func114, Try.ntmps114
      go_wp2
      exact bodyPost_ret (v := .tuple #[]) (by simp [results, Try.results114, go_sem]) rfl ⟨rfl, HO.out, hbw⟩
    obtain ⟨b1, o1, i, rfl, hx, hc1⟩ := ha.at hp
    have HX : Hid _ := hx
    have hI := hin i (List.mem_of_getElem? hx)
    have hum := unM_set (bs := bs) (p := p) (by rw [HL.out]; exact hp) hm
    rw [hm] at hcell
    have hst := OwnR.store (f := 0) (u := .bool true) (y := true) bE_len hown (getD_of (bs := bs) (p := p) (by rw [HL.out]; exact hp)) (by omega) rfl
    rw [Nat.mul_one, Nat.add_zero] at hst
    have hgl : w0.heap.size ≤ g := (hown.lt g rfl).1
    have HO1 : Hid _ := hst.1
    have hbw1 : Below w0.heap.size w0 (w.setCell ⟨g, p, none⟩ (.bool true)) := hbw.setCell hgl _
    have HW1 : Hid _ := hbw1
    have hl1 : (bs.set p true).length = n := by rw [List.length_set]; exact HL.out
    obtain ⟨c0, c1, c2, c3, c4, c5, c6, c7⟩ := eight (fun f v hv => cell_later hbw1 (hc1 f v hv))
    obtain ⟨e0, e1, e2, e3, e4, e5, e6, e7⟩ := eight hc1
    clear hc1 hst hown hbw1 c1 c2 c3 c4 c5 e1 e2 e3 e4 e5
    obtain ⟨o, k, c, s, l, r, x, y⟩ := i
    simp only at c0 c6 c7 e0 e6 e7 hI
    obtain ⟨⟨hx0, hxn⟩, ⟨hy0, hyn⟩⟩ := hI
    obtain ⟨xn, rfl⟩ : ∃ q : Nat, x = (q : Int) := ⟨x.toNat, by omega⟩
    obtain ⟨yn, rfl⟩ : ∃ q : Nat, y = (q : Int) := ⟨y.toNat, by omega⟩
    have hxn' : xn < n := by have := HLN.out; omega
    have hyn' : yn < n := by have := HLN.out; omega
    by_cases ho2 : o = 2
    case pos =>
      subst ho2
      have da := dfs_dfs HG.out f (bs.set p true) xn (by rw [HLN.out, hl1]; omega) (by rw [hl1]; exact hxn') (by omega)
      have ua := da.un
      have la := da.len
      have Ca := fun w' => ih (bs.set p true) xn w' hxn' (by omega)
      have Cb := fun w' => ih (dfs (tgS b e) is f (bs.set p true) xn) yn w' hyn' (by omega)
      have hr := dfsS_two (b := b) (e := e) (f := f) hm HX.out rfl
      simp only [Int.toNat_natCast] at hr
      rw [← hr, ← hB] at Cb
      generalize dfs (tgS b e) is f (bs.set p true) xn = B2 at Ca Cb
      have HCa : Hid _ := Ca
      have HCb : Hid _ := Cb
      clear Ca Cb da ua la hr hB hm hum hu hl1 ih hx
      go_enter Try.func114, Try.ntmps114
      go_wp2_with fail
      refine (HCa.out _ HO1.out HW1.out).mono ?_
      rintro r' w2 ⟨rfl, ho2, hb2⟩
      have g0 := cell_later hb2 e0
      have g7 := cell_later hb2 e7
      go_wp2_with fail
      refine (HCb.out _ ho2 hb2).mono ?_
      rintro r'' w3 ⟨rfl, ho3, hb3⟩
      go_wp2
      exact bodyPost_end (v := .tuple #[]) (by simp [results, Try.results114, go_sem]) rfl ⟨rfl, ho3, hb3⟩
    by_cases ho3 : o = 3
    case pos =>
      subst ho3
      have Ca := fun w' => ih (bs.set p true) xn w' hxn' (by omega)
      have hr := dfsS_one (b := b) (e := e) (f := f) hm HX.out (by simp) (by simp [goesX])
      simp only [Int.toNat_natCast] at hr
      rw [← hr, ← hB] at Ca
      have HCa : Hid _ := Ca
      clear Ca hr hB hm hum hu hl1 ih hx
      go_enter Try.func114, Try.ntmps114
      go_wp2_with fail
      refine (HCa.out _ HO1.out HW1.out).mono ?_
      rintro r' w2 ⟨rfl, ho2, hb2⟩
      have g0 := cell_later hb2 e0
      go_wp2
      exact bodyPost_end (v := .tuple #[]) (by simp [results, Try.results114, go_sem]) rfl ⟨rfl, ho2, hb2⟩
    by_cases ho4 : o = 4
    case pos =>
      subst ho4
      cases b
      case true =>
        have Ca := fun w' => ih (bs.set p true) xn w' hxn' (by omega)
        have hr := dfsS_one (b := true) (e := e) (f := f) hm HX.out (by simp) (by simp [goesX])
        simp only [Int.toNat_natCast] at hr
        rw [← hr, ← hB] at Ca
        have HCa : Hid _ := Ca
        clear Ca hr hB hm hum hu hl1 ih hx
        go_enter Try.func114, Try.ntmps114
        go_wp2_with fail
        refine (HCa.out _ HO1.out HW1.out).mono ?_
        rintro r' w2 ⟨rfl, ho2, hb2⟩
        have g0 := cell_later hb2 e0
        go_wp2
        exact bodyPost_end (v := .tuple #[]) (by simp [results, Try.results114, go_sem]) rfl ⟨rfl, ho2, hb2⟩
      case false =>
        have hr := dfsS_end (b := false) (e := e) (f := f) hm HX.out (by simp) (by simp [goesX])
        have HBB : Hid (B = bs.set p true) := hB.trans hr
        clear hr hB hm hum hu hl1 ih hx
        go_enter Try.func114, Try.ntmps114
        go_wp2
        exact bodyPost_end (v := .tuple #[]) (by simp [results, Try.results114, go_sem]) rfl ⟨rfl, by rw [HBB.out]; exact HO1.out, HW1.out⟩
    by_cases ho5 : o = 5
    case pos =>
      subst ho5
      cases e
      case true =>
        have Ca := fun w' => ih (bs.set p true) xn w' hxn' (by omega)
        have hr := dfsS_one (b := b) (e := true) (f := f) hm HX.out (by simp) (by simp [goesX])
        simp only [Int.toNat_natCast] at hr
        rw [← hr, ← hB] at Ca
        have HCa : Hid _ := Ca
        clear Ca hr hB hm hum hu hl1 ih hx
        go_enter Try.func114, Try.ntmps114
        go_wp2_with fail
        refine (HCa.out _ HO1.out HW1.out).mono ?_
        rintro r' w2 ⟨rfl, ho2, hb2⟩
        have g0 := cell_later hb2 e0
        go_wp2
        exact bodyPost_end (v := .tuple #[]) (by simp [results, Try.results114, go_sem]) rfl ⟨rfl, ho2, hb2⟩
      case false =>
        have hr := dfsS_end (b := b) (e := false) (f := f) hm HX.out (by simp) (by simp [goesX])
        have HBB : Hid (B = bs.set p true) := hB.trans hr
        clear hr hB hm hum hu hl1 ih hx
        go_enter Try.func114, Try.ntmps114
        go_wp2
        exact bodyPost_end (v := .tuple #[]) (by simp [results, Try.results114, go_sem]) rfl ⟨rfl, by rw [HBB.out]; exact HO1.out, HW1.out⟩
    have ho2' : (o == 2) = false := by simpa using ho2
    have ho3' : (o == 3) = false := by simpa using ho3
    have ho4' : (o == 4) = false := by simpa using ho4
    have ho5' : (o == 5) = false := by simpa using ho5
    have hr := dfsS_end (b := b) (e := e) (f := f) hm HX.out ho2 (by simp [goesX, ho2, ho3, ho4, ho5])
    have HBB : Hid (B = bs.set p true) := hB.trans hr
    clear hr hB hm hum hu hl1 ih hx
    go_enter Try.func114, Try.ntmps114
    go_wp2
    exact bodyPost_end (v := .tuple #[]) (by simp [results, Try.results114, go_sem]) rfl ⟨rfl, by rw [HBB.out]; exact HO1.out, HW1.out⟩

theorem info64p : (Try.prog.info? 2).map (fun i => (i.zero, i.size, i.bytes)) = some (some (.int .i64 0), 1, 8) := by kernel_rfl

set_option maxHeartbeats 1600000 in
set_option maxRecDepth 20000 in
theorem l7Places_any (a : Option Addr) (n ca : Nat) (bs : List Bool) (w : World) (ha : RdR bE 1 w a n bs) (h1 : n ≤ 1048576) :
    Calls Try.prog 115 #[.slice a n ca] w fun r w' => ∃ v, r = .returned v ∧ Own .i64 2 w' w.heap.size v (placesOf bs).length (placesOf bs) ∧ Below w.heap.size w w' := by
  obtain ⟨i0, hi, hz0, hz1, hz2⟩ := info_parts info64p
  have HL : Hid _ := ha.1
  have hb0 : ∀ o, Below w.heap.size w (w.alloc o) := fun o => (Below.refl _ _).alloc (Nat.le_refl _) o
  go_enter Try.func115, Try.ntmps115
  go_wp2
  go_loopw [3, 4] (fun x i wr => ∃ k : Nat, k ≤ n ∧ i = .int .i64 k ∧ Own .i64 2 wr w.heap.size x (placesTo bs k).length (placesTo bs k) ∧ Below w.heap.size w wr) (fun _ i _ => n - (intOf i).toNat)
  case atStart => exact ⟨0, Nat.zero_le _, rfl, own_lit w #[] 0 w.heap.size [] rfl rfl (Nat.le_refl _) (by simp [maxLen]), hb0 _⟩
  case round =>
    obtain ⟨k, hk, rfl, ho, hbw⟩ := hrel
    clear hb0
    by_cases hlt : k < n
    · have hlt' : (k : Int) < (n : Int) := by omega
      obtain ⟨b1, o1, bb, rfl, hx, hc1⟩ := (ha.below hbw).at hlt
      have hc := hc1 0 _ rfl
      rw [Nat.mul_one, Nat.add_zero] at hc
      have hbk : bs.getD k false = bb := by simp [List.getD_eq_getElem?_getD, hx]
      have hlen := placesTo_len bs k
      clear hx hc1
      cases bb
      · have hno := placesTo_no hbk
        rw [← hno] at ho
        have HO : Hid _ := ho
        clear ho hno hbk hlen
        go_wp2
        go_roundw
        case rel => exact ⟨k + 1, by omega, by go_num, HO, hbw⟩
        case measure => simp [intOf]; omega
      · have hyes := placesTo_yes hbk
        have HY : Hid _ := hyes
        obtain ⟨va, vc, hv, hrd, hvm⟩ := ho.rd
        subst hv
        have lo := ho.lt
        clear hyes hbk
        go_wp2_with (at_builtin; refine wpList_append_rd rfl _ _ 47 rfl .i64 w.heap.size 2 i0 8 Try.underlying47 hi hz0 hz1 hz2 _ _ (placesTo bs k) rfl (World.ownsRow.alloc ho _) (some ⟨wr.heap.size, 0, none⟩) 1 1 [(k : Int)] rfl (lit5_rd wr [(k : Int)] 1 rfl (by simp [maxLen])) (by simp [maxLen]; omega) (by omega) (by have := hbw.size; simp; omega) ?_)
        intro v5 w5 ho5 hg5
        have hb5 : Below w.heap.size w w5 := (hbw.alloc hbw.size _).grown hg5 (by have := hbw.size; simp; omega) (fun j hj => (lo j hj).1)
        have hln : (placesTo bs k).length + 1 = (placesTo bs (k + 1)).length := by rw [HY.out]; simp
        rw [← HY.out, hln] at ho5
        have HO5 : Hid _ := ho5
        clear ho5 hln ho hg5 lo hrd hvm hlen
        go_wp2
        go_roundw
        case rel => exact ⟨k + 1, by omega, by go_num, HO5, hb5⟩
        case measure => simp [intOf]; omega
    · go_wp2
      go_ret
      obtain rfl : k = n := by omega
      have e : placesOf bs = placesTo bs k := by unfold placesOf; rw [HL.out]
      refine ⟨_, rfl, ?_, hbw⟩
      rw [e]
      exact ho
end Go.Proofs.Ytppielcpidcmaaa
