/-
  Chapter 10's specification: how many rows each line has.
-/
import Derived.Test.YtjgmkcmlkffjlaaDoorRow2
import Derived.Test.YtjgmkcmlkffjlaaDoorAppR
import Derived.Test.YtjgmkcmlkffjlaaDoorLines2
namespace Go.Proofs.YtjgmkcmlkffjlaaDoor
open Go.RowKit
set_option linter.unusedVariables false
set_option linter.unusedSimpArgs false

theorem info64r : (Tryd.prog.info? 2).map (fun i => (i.zero, i.size, i.bytes)) = some (some (.int .i64 0), 1, 8) := by kernel_rfl

/-- how many rows each line of a file has -/
def cnt (C : Bool) (W : Int) (xs : List Int) : List Nat := (lns xs).map fun l => lnRows C W (cutOf xs l)
theorem cnt_len (C : Bool) (W : Int) (xs : List Int) : (cnt C W xs).length = (lns xs).length := by simp [cnt]
theorem cutOf_bytes {xs : List Int} (h : Bytes xs) (l : L2) : Bytes (cutOf xs l) := fun x hx => h x (List.mem_of_mem_drop (List.mem_of_mem_take hx))
theorem cutOf_len (xs : List Int) (l : L2) : (cutOf xs l).length ≤ xs.length := by unfold cutOf; simp; omega
theorem cnt_pos {C : Bool} {W : Int} {xs : List Int} (hW : 1 ≤ W) : ∀ c ∈ cnt C W xs, 1 ≤ c := by
  intro c hc
  obtain ⟨l, _, rfl⟩ := List.mem_map.1 hc
  exact rwN_pos hW
theorem cnt_le {C : Bool} {W : Int} {xs : List Int} (hB : Bytes xs) (hn : xs.length ≤ 400) (hW : 1 ≤ W) : ∀ c ∈ cnt C W xs, c ≤ 1601 := by
  intro c hc
  obtain ⟨l, _, rfl⟩ := List.mem_map.1 hc
  exact lnRows_le (cutOf_bytes hB l) (by have := cutOf_len xs l; omega) hW

/-- numbers as a row of integers -/
def natsI (cs : List Nat) : List Int := cs.map fun (k : Nat) => (k : Int)
theorem natsI_len (cs : List Nat) : (natsI cs).length = cs.length := by simp [natsI]

theorem rd_one (w : World) (K : Int) (t : TypeId) : Rd .i64 (w.alloc (.cells #[.int .i64 K] t)) (some ⟨w.heap.size, 0, none⟩) 1 [K] :=
  ⟨rfl, .inr ⟨_, _, rfl, fun j hj => by obtain rfl : j = 0 := by omega
                                        simp [go_sem]⟩⟩
theorem nats_snoc {cs : List Nat} {k K : Nat} (h : cs[k]? = some K) : natsI (cs.take k) ++ [(K : Int)] = natsI (cs.take (k + 1)) := by
  unfold natsI
  rw [List.take_add_one, h]; simp

set_option maxRecDepth 10000 in
set_option maxHeartbeats 3200000 in
theorem l10Counts_any (b b2 : Nat) (a : Option Addr) (n ca : Nat) (xs : List Int) (W S : Int) (C : Bool) (w : World) (hc : w.cell? ⟨b, 0, none⟩ = some (.slice a n ca))
    (c0 : w.cell? ⟨b2, 0, none⟩ = some (.int .i64 W)) (c1 : w.cell? ⟨b2, 1, none⟩ = some (.bool C)) (c2 : w.cell? ⟨b2, 2, none⟩ = some (.int .i64 S))
    (ha : Rd .u8 w a n xs) (hB : Bytes xs) (h1 : n ≤ 400) (hca : n ≤ ca) (hcm : ca ≤ maxLen) (hW : 1 ≤ W) (hW2 : W ≤ 40) :
    Calls Tryd.prog 22 #[.pointer (some ⟨b, 0, none⟩), .pointer (some ⟨b2, 0, none⟩)] w fun e w' => ∃ v, e = .returned v ∧ RowI .i64 2 w' w.heap.size w'.heap.size v (cnt C W xs).length (natsI (cnt C W xs)) ∧ Below w.heap.size w w' := by
  obtain ⟨i0, hi, hz0, hz1, hz2⟩ := info_parts info64r
  have hlen := ha.1
  have hll := lns_len xs
  have hbs := World.block_lt_of_cell? _ _ hc
  have hbs2 := World.block_lt_of_cell? _ _ c0
  have HM : Hid _ := hcm
  have HWa : Hid (Rd .u8 w a n xs ∧ w.cell? ⟨b, 0, none⟩ = some (.slice a n ca) ∧ w.cell? ⟨b2, 0, none⟩ = some (.int .i64 W) ∧ w.cell? ⟨b2, 1, none⟩ = some (.bool C) ∧ w.cell? ⟨b2, 2, none⟩ = some (.int .i64 S)) := ⟨ha, hc, c0, c1, c2⟩
  have P := fun w' hc h => l2Lines_any b a n ca xs w' hc h (by omega)
  have HP : Hid _ := P
  have hE : Own .i64 2 (w.alloc (.cells #[] 2)) w.heap.size (.slice (some ⟨w.heap.size, 0, none⟩) 0 0) 0 [] :=
    own_lit (k := .i64) w #[] 0 w.heap.size [] rfl rfl (Nat.le_refl _) (by simp [maxLen])
  clear P hcm hc c0 c1 c2
  have bp : ∀ o, Below w.heap.size w (w.alloc o) := fun o => (Below.refl _ _).alloc (Nat.le_refl _) o
  go_enter Tryd.func22, Tryd.ntmps22
  go_wp2_with fail
  refine Calls.mono (HP.out _ (cell_later (bp _) HWa.out.2.1) (ha.below (bp _))) ?_
  rintro e w1 ⟨vl, rfl, hL, hb⟩
  have hE1 : Own .i64 2 w1 w.heap.size (.slice (some ⟨w.heap.size, 0, none⟩) 0 0) 0 [] := hE.below hb
  have hb1 : Below w.heap.size w w1 := (bp _).trans (hb.mono (by simp))
  have hL1 : OwnR lineE 2 81 w1 w.heap.size vl (lns xs).length (lns xs) := hL.1.up (by simp)
  obtain ⟨al, cl, rfl, -⟩ := hL1.rd lineE_len
  have hcl := cnt_len C W xs
  clear hL hb hE bp
  go_wp2
  go_loopw [5, 7] (fun v i wr => ∃ k : Nat, k ≤ (lns xs).length ∧ i = .int .i64 k ∧ Own .i64 2 wr w.heap.size v k (natsI ((cnt C W xs).take k)) ∧ OwnR lineE 2 81 wr w.heap.size (.slice al (lns xs).length cl) (lns xs).length (lns xs) ∧ Below w.heap.size w wr) (fun _ i _ => (lns xs).length - (intOf i).toNat)
  case atStart => exact ⟨0, Nat.zero_le _, rfl, by simpa [natsI] using hE1, hL1, hb1⟩
  case round =>
    obtain ⟨k, hk, rfl, hO, hLr, hbr⟩ := hrel
    by_cases hlt : k < (lns xs).length
    · have hlk : (lns xs)[k]? = some (lns xs)[k] := List.getElem?_eq_getElem hlt
      have hin := lns_in xs _ (List.mem_of_getElem? hlk)
      have hck : (cnt C W xs)[k]? = some (lnRows C W (cutOf xs (lns xs)[k])) := by unfold cnt; rw [List.getElem?_map, hlk]; rfl
      obtain ⟨⟨f', z'⟩, hl⟩ : ∃ l, l = (lns xs)[k] := ⟨_, rfl⟩
      rw [← hl] at hlk hin hck
      simp only at hin
      obtain ⟨f, rfl⟩ : ∃ f : Nat, f' = (f : Int) := ⟨f'.toNat, by omega⟩
      obtain ⟨z, rfl⟩ : ∃ z : Nat, z' = (z : Int) := ⟨z'.toNat, by omega⟩
      clear hl
      have hfz : f + z ≤ n := by omega
      have hcut : cutOf xs ((f : Int), (z : Int)) = (xs.drop f).take z := by simp [cutOf]
      obtain ⟨B, o, x, hax, hx, hcx⟩ := (hLr.read lineE_len).at hlt
      rw [hlk] at hx
      obtain rfl := Option.some.inj hx
      subst hax
      have l0 := hcx 0 _ rfl
      have l1 := hcx 1 _ rfl
      simp only [Nat.add_zero] at l0
      clear hcx hx hin
      have hsz : Bytes ((xs.drop f).take z) := by rw [← hcut]; exact cutOf_bytes hB _
      have hz4 : ((xs.drop f).take z).length = z := by simp; omega
      have hlt' : (k : Int) < ((lns xs).length : Int) := by omega
      have QL := fun w' hc h => l2Line_any b a n ca f z xs w' hc h (by omega) hca HM.out hfz
      have HQL : Hid _ := QL
      have QC := fun A CA w' h c0 c1 c2 => l10Count_any b2 A z CA ((xs.drop f).take z) W S C w' h hsz (by omega) hW hW2 c0 c1 c2
      rw [← hcut] at QC
      have HQC : Hid _ := QC
      have HCK : Hid _ := hck
      have HLR := hid hLr
      have HO := hid hO
      clear QL QC hck hLr hO hlk hsz hz4 hcut
      have hwB : w.heap.size ≤ wr.heap.size := hbr.size
      generalize hLn : (lns xs).length = L at *
      go_wp2_with fail
      refine Calls.mono (HQL.out _ (cell_later hbr HWa.out.2.1) (ha.below hbr)) ?_
      rintro e w2 ⟨v2, rfl, r2, hc⟩
      obtain ⟨a2, k2, rfl, -⟩ := r2.shape
      have hO2 := HO.out.below hc
      have hL2 := HLR.out.below hc
      have hb2 := hbr.trans (hc.mono hbr.size)
      replace r2 := r2.read
      clear hc
      go_wp2_with fail
      refine Calls.mono (HQC.out _ _ _ r2 (cell_later hb2 HWa.out.2.2.1) (cell_later hb2 HWa.out.2.2.2.1) (cell_later hb2 HWa.out.2.2.2.2)) ?_
      rintro e w3 ⟨rfl, hc⟩
      have hO3 := hO2.below hc
      have hL3 := hL2.below hc
      have hb3 := hb2.trans (hc.mono hb2.size)
      clear hc r2 hO2 hL2 hb2
      generalize hK : lnRows C W (cutOf xs ((f : Int), (z : Int))) = KK at *
      have ba : Below w3.heap.size w3 (w3.alloc (.cells #[.int .i64 (KK : Int)] 2)) := (Below.refl _ _).alloc (Nat.le_refl _) _
      have hO4 := hO3.below ba
      have hL4 := hL3.below ba
      have hb4 := hb3.trans (ba.mono hb3.size)
      go_wp2_with (at_builtin; refine wpList_append_rd rfl _ _ 55 rfl .i64 w.heap.size 2 i0 8 Tryd.underlying55 hi hz0 hz1 hz2 _ k _ rfl hO4 (some ⟨w3.heap.size, 0, none⟩) 1 1 [(KK : Int)] rfl (rd_one w3 KK 2) (by unfold maxLen; omega) (by omega) hb4.size ?_)
      intro v5 w5 hO5 hg5
      have hL5 : OwnR lineE 2 81 w5 w.heap.size (.slice (some ⟨B, o, none⟩) L cl) L (lns xs) := hL4.kept hg5 (rows_apart hL4.2 hO4 (by decide))
      have hb5 := hb4.grown hg5 hb4.size (fun j hj => (hO4.lt j hj).1)
      rw [nats_snoc HCK.out] at hO5
      have HL5 := hid hL5
      have HO5 := hid hO5
      clear hO3 hL3 hb3 ba hO4 hL4 hb4 hg5 hL5 hO5
      go_wp2
      go_roundw
      case rel => exact ⟨k + 1, by omega, by go_num, HO5.out, HL5.out, hb5⟩
      case measure => simp [intOf]; omega
    · obtain rfl : k = (lns xs).length := by omega
      have hlt' : ¬ ((lns xs).length : Int) < ((lns xs).length : Int) := by omega
      rw [List.take_of_length_le (by omega)] at hO
      go_wp2
      go_ret
      exact ⟨_, rfl, RowI.of hO, hbr⟩
end Go.Proofs.YtjgmkcmlkffjlaaDoor
