/-
  Chapter 5: CanBeEmpty, both sides.
-/
import Derived.Test.YtjjapnggdfiinaaNode7M
import Derived.Test.YtjjapnggdfiinaaNode6d
namespace Go.Proofs.Ytjjapnggdfiinaa
open Go.RowKit
set_option linter.unusedVariables false
set_option linter.unusedSimpArgs false

set_option maxHeartbeats 3200000 in
set_option maxRecDepth 20000 in
theorem l5Empty_any (a : Option Addr) (n ca : Nat) (cs : List Nd) (bs : List Int) (w : World) (ha : RdR ndE 5 w a n cs) (hb : Beg cs cs.length bs) (h1 : n ≤ 1048576) (i : Nat) (hi : i < n) :
    Calls Try.prog 54 #[.slice a n ca, .int .i64 i] w fun e w' => e = .returned (.bool (empV cs i)) ∧ w' = w := by
  induction i using Nat.strongRecOn with
  | ind i ih =>
    have hlen := ha.1
    obtain ⟨b, off, x, rfl, hx, hc⟩ := ha.at hi
    obtain ⟨c0, c1, c2, c3, c4⟩ := five hc
    have hil : i < cs.length := by omega
    have hf := (hb.at_ i x hil hx).1.1
    have hlt : (i : Int) < (n : Int) := by omega
    rw [empV_at hb hx]
    have L : 8 ≤ x.k → 0 ≤ x.l ∧ x.l.toNat < i := fun h8 => by
      by_cases h2 : x.k = 11 ∨ x.k = 12
      · have := hb.two hil hx h2; omega
      · have := hb.one hil hx (by omega); omega
    have Rr : 11 ≤ x.k → 0 ≤ x.r ∧ x.r.toNat < i := fun h8 => by
      have := hb.two hil hx (by omega); omega
    have IL : 8 ≤ x.k → Calls Try.prog 54 #[.slice (some ⟨b, off, none⟩) n ca, .int .i64 x.l] w fun e w' => e = .returned (.bool (empV cs x.l.toNat)) ∧ w' = w := fun h8 => by
      have h := ih x.l.toNat (L h8).2 (by have := (L h8).2; omega)
      rwa [Int.toNat_of_nonneg (L h8).1] at h
    have IR : 11 ≤ x.k → Calls Try.prog 54 #[.slice (some ⟨b, off, none⟩) n ca, .int .i64 x.r] w fun e w' => e = .returned (.bool (empV cs x.r.toNat)) ∧ w' = w := fun h8 => by
      have h := ih x.r.toNat (Rr h8).2 (by have := (Rr h8).2; omega)
      rwa [Int.toNat_of_nonneg (Rr h8).1] at h
    have hk : x.k = 1 ∨ x.k = 2 ∨ x.k = 3 ∨ x.k = 4 ∨ x.k = 5 ∨ x.k = 6 ∨ x.k = 7 ∨ x.k = 8 ∨ x.k = 9 ∨ x.k = 10 ∨ x.k = 11 ∨ x.k = 12 := by omega
    unfold empF
    clear ih hx hc hb L Rr ha hlen hil
    obtain ⟨k, c, s, l, r⟩ := x
    simp only at c0 c1 c2 c3 c4 IL IR hk ⊢
    generalize hgl : empV cs l.toNat = gl at IL
    generalize hgr : empV cs r.toNat = gr at IR
    have HGL : Hid _ := hgl
    have HGR : Hid _ := hgr
    clear hgl hgr
    rcases hk with rfl | rfl | rfl | rfl | rfl | rfl | rfl | rfl | rfl | rfl | rfl | rfl
    · clear IL IR
      rw [if_pos (by omega)]
      go_enter Try.func54, Try.ntmps54
      go_wp2
      go_ret
      exact ⟨rfl, rfl⟩
    · clear IL IR
      rw [if_neg (by omega), if_neg (by omega), if_neg (by omega), if_neg (by omega)]
      go_enter Try.func54, Try.ntmps54
      go_wp2
      go_ret
      exact ⟨rfl, rfl⟩
    · clear IL IR
      rw [if_neg (by omega), if_neg (by omega), if_neg (by omega), if_neg (by omega)]
      go_enter Try.func54, Try.ntmps54
      go_wp2
      go_ret
      exact ⟨rfl, rfl⟩
    · clear IL IR
      rw [if_neg (by omega), if_neg (by omega), if_neg (by omega), if_neg (by omega)]
      go_enter Try.func54, Try.ntmps54
      go_wp2
      go_ret
      exact ⟨rfl, rfl⟩
    · clear IL IR
      rw [if_neg (by omega), if_neg (by omega), if_neg (by omega), if_neg (by omega)]
      go_enter Try.func54, Try.ntmps54
      go_wp2
      go_ret
      exact ⟨rfl, rfl⟩
    · clear IL IR
      rw [if_pos (by omega)]
      go_enter Try.func54, Try.ntmps54
      go_wp2
      go_ret
      exact ⟨rfl, rfl⟩
    · clear IL IR
      rw [if_pos (by omega)]
      go_enter Try.func54, Try.ntmps54
      go_wp2
      go_ret
      exact ⟨rfl, rfl⟩
    · have HL : Hid _ := IL (by omega)
      clear IL IR
      rw [if_pos (by omega)]
      go_enter Try.func54, Try.ntmps54
      go_wp2
      go_ret
      exact ⟨rfl, rfl⟩
    · have HL : Hid _ := IL (by omega)
      clear IL IR
      rw [if_neg (by omega), if_pos rfl]
      go_enter Try.func54, Try.ntmps54
      go_wp2_with fail
      refine Calls.mono HL.out ?_
      rintro e w1 ⟨rfl, rfl⟩
      go_wp2
      go_ret
      exact ⟨rfl, rfl⟩
    · have HL : Hid _ := IL (by omega)
      clear IL IR
      rw [if_pos (by omega)]
      go_enter Try.func54, Try.ntmps54
      go_wp2
      go_ret
      exact ⟨rfl, rfl⟩
    · have HL : Hid _ := IL (by omega)
      have HRr : Hid _ := IR (by omega)
      clear IL IR
      rw [if_neg (by omega), if_neg (by omega), if_pos rfl]
      cases gl
      · go_enter Try.func54, Try.ntmps54
        go_wp2_with fail
        refine Calls.mono HL.out ?_
        rintro e w1 ⟨rfl, rfl⟩
        go_wp2
        go_ret
        exact ⟨rfl, rfl⟩
      · go_enter Try.func54, Try.ntmps54
        go_wp2_with fail
        refine Calls.mono HL.out ?_
        rintro e w1 ⟨rfl, rfl⟩
        go_wp2_with fail
        refine Calls.mono HRr.out ?_
        rintro e w2 ⟨rfl, rfl⟩
        go_wp2
        go_ret
        exact ⟨by simp, rfl⟩
    · have HL : Hid _ := IL (by omega)
      have HRr : Hid _ := IR (by omega)
      clear IL IR
      rw [if_neg (by omega), if_neg (by omega), if_neg (by omega), if_pos rfl]
      cases gl
      · go_enter Try.func54, Try.ntmps54
        go_wp2_with fail
        refine Calls.mono HL.out ?_
        rintro e w1 ⟨rfl, rfl⟩
        go_wp2_with fail
        refine Calls.mono HRr.out ?_
        rintro e w2 ⟨rfl, rfl⟩
        go_wp2
        go_ret
        exact ⟨by simp, rfl⟩
      · go_enter Try.func54, Try.ntmps54
        go_wp2_with fail
        refine Calls.mono HL.out ?_
        rintro e w1 ⟨rfl, rfl⟩
        go_wp2
        go_ret
        exact ⟨rfl, rfl⟩

set_option maxHeartbeats 800000 in
theorem specCanBeEmpty_any (a : Option Addr) (n ca : Nat) (cs : List Nd) (w : World) (ha : RdR ndE 5 w a n cs) (hs : ndSum cs ≤ 1048576) (h1 : n ≤ 1048576) :
    Calls Try.prog 32 #[.slice a n ca] w fun e w' => e = .returned (.bool (canEmpty cs)) ∧ Below w.heap.size w w' := by
  have hF : Hid _ := fun w' ha' => l5Fault_any a n ca cs w' ha' hs h1
  unfold canEmpty
  by_cases h0 : nodesFault cs = 0
  · obtain ⟨g1, g2, bs, hb, _⟩ := fault0 h0
    have hlen := ha.1
    have hE : Hid _ := fun w' ha' => l5Empty_any a n ca cs bs w' ha' hb h1 (n - 1) (by omega)
    rw [show ((n - 1 : Nat) : Int) = (n : Int) - 1 by omega] at hE
    rw [h0] at hF ⊢
    rw [hlen]
    generalize empV cs (n - 1) = R at hE ⊢
    clear hlen g1 g2 hb
    go_enter Try.func32, Try.ntmps32
    go_wp2_with fail
    refine (hF.out _ ha).mono ?_
    rintro e w1 ⟨rfl, hb1⟩
    go_wp2_with fail
    refine (hE.out _ (ha.below hb1)).mono ?_
    rintro e w2 ⟨rfl, rfl⟩
    go_wp2
    go_ret
    exact ⟨by simp, hb1⟩
  · rw [decide_eq_false h0, Bool.false_and]
    generalize nodesFault cs = F at h0 hF
    have h0' : (F == 0) = false := by simpa using h0
    go_enter Try.func32, Try.ntmps32
    go_wp2_with fail
    refine (hF.out _ ha).mono ?_
    rintro e w1 ⟨rfl, hb1⟩
    go_wp2
    go_ret
    exact ⟨rfl, hb1⟩

/-- The one cell of a bool. -/
def boE (b : Bool) : List Value := [.bool b]
theorem boE_len (b : Bool) : (boE b).length = 1 := rfl

theorem infoBo : (Try.prog.info? 4).map (fun i => (i.zero, i.size, i.bytes)) = some (some (.bool false), 1, 1) := by kernel_rfl

theorem madeBo (n : Nat) : (madeCells #[Value.bool false] (n * 1)).toList = (List.replicate n false).flatMap boE := by
  apply List.ext_getElem?
  intro j
  by_cases hj : j < n * 1
  · have h := getElem?_flatMap boE 1 boE_len (List.replicate n false) j 0 false (by rw [List.getElem?_replicate, if_pos (by omega)]) (by omega)
    rw [show j * 1 + 0 = j by omega] at h
    rw [h]
    have hj' : j < n := by omega
    simp [madeCells, hj', boE, Nat.mod_one]
  · have h2 := length_flatMap' boE 1 boE_len (List.replicate n false)
    rw [List.getElem?_eq_none (by simp [madeCells]; omega), List.getElem?_eq_none (by rw [h2]; simp; omega)]

/-- The bools so far. -/
def canRow (cs : List Nd) (n k : Nat) : List Bool := valsOf empF false (cs.take k) ++ List.replicate (n - k) false

theorem canRow_at {cs : List Nd} {n k i : Nat} (h : cs.length = n) (hi : i < k) (hk : k ≤ n) : (canRow cs n k)[i]? = some (empV cs i) := by
  unfold canRow empV
  have h1 : i < (valsOf empF false (cs.take k)).length := by rw [valsOf_len cs k (by omega)]; omega
  rw [List.getElem?_append_left h1]
  have h2 := valsOf_pre (f := empF) (d := false) cs (i := i) (k := k) hi n hk (by omega)
  rw [← h, List.take_length] at h2
  rw [h2, List.getD_eq_getElem?_getD, List.getElem?_eq_getElem h1]
  rfl

theorem canRow_old {cs : List Nd} {n k : Nat} (h : cs.length = n) (hk : k < n) : (canRow cs n k)[k]? = some false := by
  unfold canRow
  rw [List.getElem?_append_right (by rw [valsOf_len cs k (by omega)]; omega), valsOf_len cs k (by omega), Nat.sub_self, List.getElem?_replicate, if_pos (by omega)]

theorem canRow_set {cs : List Nd} {n k : Nat} {x : Nd} {bs : List Int} (h : cs.length = n) (hx : cs[k]? = some x) (hb : Beg cs cs.length bs) : (canRow cs n k).set k (empV cs k) = canRow cs n (k + 1) := by
  have hk : k < cs.length := (List.getElem?_eq_some_iff.1 hx).1
  unfold canRow
  obtain ⟨d, hd⟩ : ∃ d, n - k = d + 1 := ⟨n - k - 1, by omega⟩
  rw [hd, List.replicate_succ, set_mid _ _ (by rw [valsOf_len cs k (by omega)]), valsOf_succ hx, show n - (k + 1) = d by omega]
  have h2 := valsOf_pre (f := empF) (d := false) cs (i := k) (k := k + 1) (by omega) cs.length (by omega) (Nat.le_refl _)
  rw [List.take_length, valsOf_succ hx, List.getD_eq_getElem?_getD, List.getD_eq_getElem?_getD, List.getElem?_append_right (by rw [valsOf_len cs k (by omega)]; omega), valsOf_len cs k (by omega)] at h2
  simp only [Nat.sub_self, List.getElem?_cons_zero, Option.getD_some] at h2
  have h3 : empV cs k = empF x (fun j => (valsOf empF false (cs.take k)).getD j.toNat false) := by
    rw [← h2, empV, List.getD_eq_getElem?_getD]
  rw [h3]

theorem canRow_none {cs : List Nd} {n k : Nat} {x : Nd} {bs : List Int} (h : cs.length = n) (hx : cs[k]? = some x) (hb : Beg cs cs.length bs) (he : empV cs k = false) : canRow cs n k = canRow cs n (k + 1) := by
  rw [← canRow_set h hx hb, he]
  have hk : k < cs.length := (List.getElem?_eq_some_iff.1 hx).1
  have h1 := canRow_old h (show k < n by omega)
  apply List.ext_getElem?
  intro j
  rw [List.getElem?_set]
  split
  · next e =>
    subst e
    obtain ⟨p, q⟩ := List.getElem?_eq_some_iff.1 h1
    simp [p, q]
  · rfl

set_option maxHeartbeats 3200000 in
set_option maxRecDepth 20000 in
theorem implCanBeEmpty_any (a : Option Addr) (n ca : Nat) (cs : List Nd) (w : World) (ha : RdR ndE 5 w a n cs) (hs : ndSum cs ≤ 1048576) (h1 : n ≤ 1048576) :
    Calls Try.prog 33 #[.slice a n ca] w fun e w' => e = .returned (.bool (canEmpty cs)) ∧ Below w.heap.size w w' := by
  have hF : Hid _ := fun w' ha' => implNodesFault_any a n ca cs w' ha' hs h1
  unfold canEmpty
  by_cases h0 : nodesFault cs = 0
  case neg =>
    rw [decide_eq_false h0, Bool.false_and]
    generalize nodesFault cs = F at h0 hF
    have h0' : (F == 0) = false := by simpa using h0
    go_enter Try.func33, Try.ntmps33
    go_wp2_with fail
    refine (hF.out _ ha).mono ?_
    rintro e w1 ⟨rfl, hb1⟩
    go_wp2
    go_ret
    exact ⟨rfl, hb1⟩
  obtain ⟨g1, g2, bs, hb, _⟩ := fault0 h0
  have hlen := ha.1
  rw [h0] at hF ⊢
  rw [hlen] at g1 g2 ⊢
  obtain ⟨R, hR⟩ : ∃ R, R = (decide ((0 : Int) = 0) && empV cs (n - 1)) := ⟨_, rfl⟩
  rw [← hR]
  have hR2 : R = empV cs (n - 1) := by rw [hR]; simp
  have HR : Hid _ := hR2
  have HL : Hid _ := hlen
  have HB : Hid (Beg cs cs.length bs) := hb
  clear hR hR2 hlen
  obtain ⟨i0, hi, hz0, hz1, hz2⟩ := info_parts infoBo
  go_enter Try.func33, Try.ntmps33
  go_wp2_with fail
  refine (hF.out _ ha).mono ?_
  rintro e w1 ⟨rfl, hb1⟩
  go_wp2_with (at_make; refine wpList_make_full _ rfl _ _ 73 rfl w1.heap.size 4 i0 (.bool false) 1 Try.underlying73 hi hz0 hz1 _ _ _ _ n rfl rfl rfl rfl (by rw [hz2]; omega) (by unfold maxLen; omega) (Nat.le_refl _) ?_)
  intro w2 hown2 hgrow2
  have ho2 : OwnR boE 1 4 w2 w1.heap.size (.slice (some ⟨w1.heap.size, 0, none⟩) n n) n (canRow cs n 0) := by
    have e0 : canRow cs n 0 = List.replicate n false := by simp [canRow, valsOf]
    rw [e0]
    refine ⟨by simp, ?_⟩
    rw [← madeBo]
    simpa [Value.cells] using hown2
  have hb2 : Below w1.heap.size w1 w2 := (Below.refl _ _).grown hgrow2 (Nat.le_refl _) (by simp)
  have hz2' := (ho2.lt w1.heap.size rfl).2
  clear hown2 hgrow2
  go_wp2
  go_loopw [14] (fun i wr => ∃ k : Nat, k ≤ n ∧ i = .int .i64 k ∧ OwnR boE 1 4 wr w1.heap.size (.slice (some ⟨w1.heap.size, 0, none⟩) n n) n (canRow cs n k) ∧ Below w1.heap.size w1 wr ∧ w1.heap.size < wr.heap.size) (fun i _ => n - (intOf i).toNat)
  case atStart => exact ⟨0, Nat.zero_le _, rfl, ho2, hb2, hz2'⟩
  case round =>
    obtain ⟨k, hk, rfl, ho, hbw, hzw⟩ := hrel
    clear ho2 hb2 hz2'
    have hbw0 : Below w.heap.size w wr := hb1.trans (hbw.mono hb1.size)
    by_cases hlt : k < n
    · have hlt' : (k : Int) < (n : Int) := by omega
      obtain ⟨b, off, x, rfl, hx, hc⟩ := (ha.below hbw0).at hlt
      obtain ⟨c0, c1, c2, c3, c4⟩ := five hc
      have hL := HL.out
      have hil : k < cs.length := by omega
      have hf := (HB.out.at_ k x hil hx).1.1
      have hE := empV_at HB.out hx
      have L : 8 ≤ x.k → 0 ≤ x.l ∧ x.l.toNat < k := fun h8 => by
        by_cases h2 : x.k = 11 ∨ x.k = 12
        · have := HB.out.two hil hx h2; omega
        · have := HB.out.one hil hx (by omega); omega
      have Rr : 11 ≤ x.k → 0 ≤ x.r ∧ x.r.toNat < k := fun h8 => by
        have := HB.out.two hil hx (by omega); omega
      have dk : wr.cell? ⟨w1.heap.size, k, none⟩ = some (.bool false) := by
        have h := OwnR.cell (f := 0) boE_len ho (canRow_old hL hlt) rfl
        rwa [Nat.mul_one, Nat.add_zero] at h
      have fk : wr.frozen? ⟨w1.heap.size, k, none⟩ = false := ho.frozen k
      have DL : ∀ (j : Nat), j < k → wr.cell? ⟨w1.heap.size, j, none⟩ = some (.bool (empV cs j)) := fun j hj => by
        have h := OwnR.cell (f := 0) boE_len ho (canRow_at hL hj hk) rfl
        rwa [Nat.mul_one, Nat.add_zero] at h
      have ST : ∀ o, OwnR boE 1 4 ((wr.setCell ⟨w1.heap.size, k, none⟩ (.bool (empV cs k))).alloc o) w1.heap.size (.slice (some ⟨w1.heap.size, 0, none⟩) n n) n (canRow cs n (k + 1)) := fun o => by
        have h := (OwnR.store (f := 0) (u := .bool (empV cs k)) (y := empV cs k) boE_len ho (canRow_old hL hlt) (by omega) rfl).1
        rw [canRow_set hL hx HB.out, Nat.mul_one, Nat.add_zero] at h
        exact h.alloc o
      have NO : empV cs k = false → ∀ o, OwnR boE 1 4 (wr.alloc o) w1.heap.size (.slice (some ⟨w1.heap.size, 0, none⟩) n n) n (canRow cs n (k + 1)) := fun he o => by
        have h := ho.alloc o
        rwa [canRow_none hL hx HB.out he] at h
      have BS : ∀ o u, Below w1.heap.size w1 ((wr.setCell ⟨w1.heap.size, k, none⟩ u).alloc o) := fun o u => (hbw.setCell (Nat.le_refl _) u).alloc (by simp [World.setCell]; omega) o
      have BA : ∀ o, Below w1.heap.size w1 (wr.alloc o) := fun o => hbw.alloc hbw.size o
      have ZS : ∀ o u, w1.heap.size < ((wr.setCell ⟨w1.heap.size, k, none⟩ u).alloc o).heap.size := fun o u => by
        simp [World.setCell]; omega
      have ZA : ∀ o, w1.heap.size < (wr.alloc o).heap.size := fun o => by simp; omega
      have hk12 : x.k = 1 ∨ x.k = 2 ∨ x.k = 3 ∨ x.k = 4 ∨ x.k = 5 ∨ x.k = 6 ∨ x.k = 7 ∨ x.k = 8 ∨ x.k = 9 ∨ x.k = 10 ∨ x.k = 11 ∨ x.k = 12 := by omega
      unfold empF at hE
      clear ho hx hc hL hil hf
      obtain ⟨k', c, s, l, r⟩ := x
      simp only at c0 c1 c2 c3 c4 hE L Rr hk12
      rcases hk12 with rfl | rfl | rfl | rfl | rfl | rfl | rfl | rfl | rfl | rfl | rfl | rfl
      · rw [if_pos (by omega)] at hE
        rw [hE] at ST
        have HS : Hid _ := ST
        clear ST NO DL L Rr hE
        go_wp2
        go_roundw
        case rel => exact ⟨k + 1, by omega, by go_num, HS.out _, BS _ _, ZS _ _⟩
        case measure => simp [intOf]; omega
      · rw [if_neg (by omega), if_neg (by omega), if_neg (by omega), if_neg (by omega)] at hE
        have HS : Hid _ := NO hE
        clear ST NO DL L Rr hE
        go_wp2
        go_roundw
        case rel => exact ⟨k + 1, by omega, by go_num, HS.out _, BA _, ZA _⟩
        case measure => simp [intOf]; omega
      · rw [if_neg (by omega), if_neg (by omega), if_neg (by omega), if_neg (by omega)] at hE
        have HS : Hid _ := NO hE
        clear ST NO DL L Rr hE
        go_wp2
        go_roundw
        case rel => exact ⟨k + 1, by omega, by go_num, HS.out _, BA _, ZA _⟩
        case measure => simp [intOf]; omega
      · rw [if_neg (by omega), if_neg (by omega), if_neg (by omega), if_neg (by omega)] at hE
        have HS : Hid _ := NO hE
        clear ST NO DL L Rr hE
        go_wp2
        go_roundw
        case rel => exact ⟨k + 1, by omega, by go_num, HS.out _, BA _, ZA _⟩
        case measure => simp [intOf]; omega
      · rw [if_neg (by omega), if_neg (by omega), if_neg (by omega), if_neg (by omega)] at hE
        have HS : Hid _ := NO hE
        clear ST NO DL L Rr hE
        go_wp2
        go_roundw
        case rel => exact ⟨k + 1, by omega, by go_num, HS.out _, BA _, ZA _⟩
        case measure => simp [intOf]; omega
      · rw [if_pos (by omega)] at hE
        rw [hE] at ST
        have HS : Hid _ := ST
        clear ST NO DL L Rr hE
        go_wp2
        go_roundw
        case rel => exact ⟨k + 1, by omega, by go_num, HS.out _, BS _ _, ZS _ _⟩
        case measure => simp [intOf]; omega
      · rw [if_pos (by omega)] at hE
        rw [hE] at ST
        have HS : Hid _ := ST
        clear ST NO DL L Rr hE
        go_wp2
        go_roundw
        case rel => exact ⟨k + 1, by omega, by go_num, HS.out _, BS _ _, ZS _ _⟩
        case measure => simp [intOf]; omega
      · rw [if_pos (by omega)] at hE
        rw [hE] at ST
        have HS : Hid _ := ST
        clear ST NO DL L Rr hE
        go_wp2
        go_roundw
        case rel => exact ⟨k + 1, by omega, by go_num, HS.out _, BS _ _, ZS _ _⟩
        case measure => simp [intOf]; omega
      · rw [if_neg (by omega), if_pos rfl] at hE
        have DL1 := DL l.toNat (L (by omega)).2
        rw [← hE] at DL1
        generalize empV cs k = E at ST DL1
        have HS : Hid _ := ST
        obtain ⟨ln, rfl⟩ : ∃ ln : Nat, l = (ln : Int) := ⟨l.toNat, by have := (L (by omega)).1; omega⟩
        rw [Int.toNat_natCast] at DL1
        have hl1 : ln < n := by have := (L (by omega)).2; omega
        have hl2 : (ln : Int) < n := by omega
        clear ST NO DL L Rr hE
        go_wp2
        go_roundw
        case rel => exact ⟨k + 1, by omega, by go_num, HS.out _, BS _ _, ZS _ _⟩
        case measure => simp [intOf]; omega
      · rw [if_pos (by omega)] at hE
        rw [hE] at ST
        have HS : Hid _ := ST
        clear ST NO DL L Rr hE
        go_wp2
        go_roundw
        case rel => exact ⟨k + 1, by omega, by go_num, HS.out _, BS _ _, ZS _ _⟩
        case measure => simp [intOf]; omega
      · rw [if_neg (by omega), if_neg (by omega), if_pos rfl] at hE
        have DL1 := DL l.toNat (L (by omega)).2
        have DL2 := DL r.toNat (Rr (by omega)).2
        generalize empV cs l.toNat = gl at hE DL1
        generalize empV cs r.toNat = gr at hE DL2
        rw [hE] at ST
        obtain ⟨ln, rfl⟩ : ∃ ln : Nat, l = (ln : Int) := ⟨l.toNat, by have := (L (by omega)).1; omega⟩
        obtain ⟨rn, rfl⟩ : ∃ rn : Nat, r = (rn : Int) := ⟨r.toNat, by have := (Rr (by omega)).1; omega⟩
        rw [Int.toNat_natCast] at DL1 DL2
        have hl1 : ln < n := by have := (L (by omega)).2; omega
        have hl2 : (ln : Int) < n := by omega
        have hr1 : rn < n := by have := (Rr (by omega)).2; omega
        have hr2 : (rn : Int) < n := by omega
        clear NO DL L Rr hE
        cases gl
        · simp only [Bool.false_and, Bool.true_and, Bool.false_or, Bool.true_or] at ST
          have HS : Hid _ := ST
          clear ST
          go_wp2
          go_roundw
          case rel => exact ⟨k + 1, by omega, by go_num, HS.out _, BS _ _, ZS _ _⟩
          case measure => simp [intOf]; omega
        · simp only [Bool.false_and, Bool.true_and, Bool.false_or, Bool.true_or] at ST
          have HS : Hid _ := ST
          clear ST
          go_wp2
          go_roundw
          case rel => exact ⟨k + 1, by omega, by go_num, HS.out _, BS _ _, ZS _ _⟩
          case measure => simp [intOf]; omega
      · rw [if_neg (by omega), if_neg (by omega), if_neg (by omega), if_pos rfl] at hE
        have DL1 := DL l.toNat (L (by omega)).2
        have DL2 := DL r.toNat (Rr (by omega)).2
        generalize empV cs l.toNat = gl at hE DL1
        generalize empV cs r.toNat = gr at hE DL2
        rw [hE] at ST
        obtain ⟨ln, rfl⟩ : ∃ ln : Nat, l = (ln : Int) := ⟨l.toNat, by have := (L (by omega)).1; omega⟩
        obtain ⟨rn, rfl⟩ : ∃ rn : Nat, r = (rn : Int) := ⟨r.toNat, by have := (Rr (by omega)).1; omega⟩
        rw [Int.toNat_natCast] at DL1 DL2
        have hl1 : ln < n := by have := (L (by omega)).2; omega
        have hl2 : (ln : Int) < n := by omega
        have hr1 : rn < n := by have := (Rr (by omega)).2; omega
        have hr2 : (rn : Int) < n := by omega
        clear NO DL L Rr hE
        cases gl
        · simp only [Bool.false_and, Bool.true_and, Bool.false_or, Bool.true_or] at ST
          have HS : Hid _ := ST
          clear ST
          go_wp2
          go_roundw
          case rel => exact ⟨k + 1, by omega, by go_num, HS.out _, BS _ _, ZS _ _⟩
          case measure => simp [intOf]; omega
        · simp only [Bool.false_and, Bool.true_and, Bool.false_or, Bool.true_or] at ST
          have HS : Hid _ := ST
          clear ST
          go_wp2
          go_roundw
          case rel => exact ⟨k + 1, by omega, by go_num, HS.out _, BS _ _, ZS _ _⟩
          case measure => simp [intOf]; omega
    · obtain rfl : k = n := by omega
      have hcell := OwnR.cell (f := 0) boE_len ho (canRow_at HL.out (show k - 1 < k by omega) (Nat.le_refl _)) rfl
      rw [Nat.mul_one, Nat.add_zero, ← HR.out] at hcell
      obtain ⟨K, rfl⟩ : ∃ K, k = K + 1 := ⟨k - 1, by omega⟩
      rw [Nat.add_sub_cancel] at hcell
      clear ho
      go_wp2
      go_ret
      exact ⟨rfl, hbw0⟩
end Go.Proofs.Ytjjapnggdfiinaa
