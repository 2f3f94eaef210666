/-
  Chapter 8: the specification's TableTrue.
-/
import Derived.Test.YtoggkcgldckekaaMemB
import Derived.Test.YtoggkcgldckekaaTab1
import Derived.Test.YtoggkcgldckekaaSet7
namespace Go.Proofs.Ytoggkcgldckekaa
open Go.RowKit
set_option linter.unusedVariables false
set_option linter.unusedSimpArgs false

set_option maxHeartbeats 800000 in
theorem l8Next_any (i : Option Addr) (ni ci : Nat) (is : List In) (p : Option Addr) (cp : Nat) (ss : List Int) (d : Int) (hd0 : 0 ≤ d) (hd1 : d < 256) (hin : Inside is) (hsi : inSum is ≤ 1048576) (h1 : 1 ≤ ni) (h2 : ni ≤ 80) (hm : ss.length ≤ 1048576) (hr : ss.Pairwise (· < ·)) (hxs : ∀ q ∈ ss, 0 ≤ q ∧ q < ni) (w : World) (hi : RdR inE 8 w i ni is) (hp : Rd .i64 w p ss.length ss) :
    Calls Try.prog 118 #[.slice i ni ci, .slice p ss.length cp, .int .u8 d] w fun e w' => ∃ v, e = .returned v ∧ Own .i64 2 w' w.heap.size v (nextS is ss d).length (nextS is ss d) ∧ Below w.heap.size w w' := by
  have hlen := hi.1
  have hst : ∀ x ∈ placesOf (stepS is d ss), 0 ≤ x ∧ x < (ni : Int) := by
    intro x hx
    obtain ⟨q, rfl, hq⟩ := placesOf_mem.1 hx
    obtain ⟨_, _, j, hj, _, _, rfl⟩ := (stepS_at hin q).1 hq
    have := hin j (List.mem_of_getElem? hj)
    omega
  have hsl : (placesOf (stepS is d ss)).length ≤ 1048576 := by
    have := placesOf_len (stepS is d ss)
    have e : (stepS is d ss).length = is.length := by unfold stepS; rw [stepFold_len]; simp
    omega
  have HST := hid (fun w' h1' h2' => l7Step_any i ni ci is p ss.length cp ss d hd0 hd1 hin hsi h1 h2 hm hxs w' h1' h2')
  have HCL := hid (fun (x : Option Addr) (cx : Nat) w' h1' h2' => l7Close_any i ni ci is x (placesOf (stepS is d ss)).length cx (placesOf (stepS is d ss)) false false hin h1 h2 hsl hst w' h1' h2')
  rw [show nextS is ss d = placesOf (closeS is false false (placesOf (stepS is d ss))) from rfl]
  generalize placesOf (closeS is false false (placesOf (stepS is d ss))) = R at *
  clear hst hsl hlen
  go_enter Try.func118, Try.ntmps118
  go_wp2_with fail
  refine (HST.out _ hi hp).mono ?_
  rintro e w1 ⟨v1, rfl, ho1, hb1⟩
  obtain ⟨a1, c1, rfl, hr1, hm1⟩ := ho1.rd
  have HR1 := hid hr1
  have HI1 := hid (hi.below hb1)
  clear ho1 hr1 hm1
  go_wp2_with fail
  refine (HCL.out a1 c1 _ HI1.out HR1.out).mono ?_
  rintro e w2 ⟨v2, rfl, ho2, hb2⟩
  obtain ⟨a2, c2, rfl, hr2, hm2⟩ := ho2.rd
  have HO := hid (ho2.up hb1.size)
  have hb02 := hb1.trans (hb2.mono hb1.size)
  clear ho2 hr2 hm2
  go_wp2
  go_ret
  exact ⟨_, rfl, HO.out, hb02⟩

set_option maxHeartbeats 6400000 in
set_option maxRecDepth 20000 in
theorem l8True_any (i : Option Addr) (ni ci : Nat) (is : List In) (b : Nat) (a : Option Addr) (n ca : Nat) (ts : List St) (w : World) (hi : RdR inE 8 w i ni is) (hsi : inSum is ≤ 1048576) (hin : Inside is) (h1 : 1 ≤ ni) (h2 : ni ≤ 80) (c1 : w.cell? ⟨b, 1, none⟩ = some (.slice a n ca)) (ht : RdT w a n ts) (hn12 : n ≤ 12)
    (hr : ∀ y ∈ ts, ((y.1.Pairwise (· < ·) ∧ ∀ z ∈ y.1, 0 ≤ z ∧ z < (is.length : Int)) ∧ ∀ a ∈ y.2, ¬ ArcBad n a) ∧ y.2.length ≤ 256 ∧ y.1.length ≤ 80) :
    Calls Try.prog 96 #[.slice i ni ci, .pointer (some ⟨b, 0, none⟩)] w fun e w' => e = .returned (.bool (tabT is ts)) ∧ Below w.heap.size w w' := by
  obtain ⟨R, hR⟩ : ∃ R, R = tabT is ts := ⟨_, rfl⟩
  rw [← hR]
  have HRR := hid hR
  have HR := hid hr
  have HLN := hid ht.len
  have HIS := hid hi.1
  clear hR hr
  go_enter Try.func96, Try.ntmps96
  go_wp2
  go_loopw [5] (fun i wr => ∃ k : Nat, k ≤ n ∧ i = .int .i64 k ∧ Below w.heap.size w wr ∧ Hid ((ts.take k).all (stT is ts) = true)) (fun i _ => n - (intOf i).toNat)
  case atStart => exact ⟨0, Nat.zero_le _, rfl, Below.refl _ _, (by simp : (ts.take 0).all (stT is ts) = true)⟩
  case round =>
    obtain ⟨k, hk, rfl, hbw, hall⟩ := hrel
    have cb := cell_later hbw c1
    by_cases hlt : k < n
    · obtain ⟨b1, o1, p, cp, ra, cr, ss, az, rfl, hx, d0, d1, r1, r2, -, -⟩ := (ht.below hbw).at hlt
      have hlt' : (k : Int) < (n : Int) := by omega
      have hxm : (ss, az) ∈ ts := List.mem_of_getElem? hx
      obtain ⟨⟨⟨p1, p2⟩, p3⟩, p4, p5⟩ := HR.out _ hxm
      simp only at p1 p2 p3 p4 p5
      have HX := hid hx
      have HR1 := hid r1
      have HR2 := hid r2
      have HP1 := hid p1
      have HP2 := hid p2
      have HP3 := hid p3
      obtain ⟨wo, rfl⟩ : ∃ wo : World, wo = wr := ⟨_, rfl⟩
      clear hx hxm r1 r2 p1 p2 p3
      go_wp2
      go_loopw [7] (fun i wr => ∃ j : Nat, j ≤ az.length ∧ i = .int .i64 j ∧ Below wo.heap.size wo wr ∧ Hid ((az.take j).all (arcT is ts ss) = true)) (fun i _ => az.length - (intOf i).toNat)
      case atStart => exact ⟨0, Nat.zero_le _, rfl, Below.refl _ _, (by simp : (az.take 0).all (arcT is ts ss) = true)⟩
      case round =>
        obtain ⟨j, hj, rfl, hbq, hallj⟩ := hrel
        have e0 := cell_later hbq d0
        have e1 := cell_later hbq d1
        have eb := cell_later hbq cb
        have hbz := hbw.trans (hbq.mono hbw.size)
        by_cases hjl : j < az.length
        · obtain ⟨b2, o2, cc, e2, hxa, hca⟩ := (HR2.out.below hbq).at hjl
          subst e2
          obtain ⟨x0, x1⟩ := two hca
          obtain ⟨X, Y⟩ := cc
          simp only at x0 x1
          have hbad := HP3.out (X, Y) (List.mem_of_getElem? hxa)
          have hgood : (0 ≤ X ∧ X ≤ 255) ∧ (0 ≤ Y ∧ Y ≤ (n : Int) - 1) := by unfold ArcBad at hbad; simp only at hbad; omega
          obtain ⟨⟨hX0, hX1⟩, hY0, hY1⟩ := hgood
          obtain ⟨To, rfl⟩ : ∃ To : Nat, Y = (To : Int) := ⟨Y.toNat, by omega⟩
          have hTo : To < n := by omega
          obtain ⟨b3, o3, p2, cp2, ra2, cr2, s2, a2, e3, hx2, t0, -, t2, -, -, -⟩ := (ht.below hbz).at hTo
          simp only [Option.some.injEq, Addr.mk.injEq, and_true] at e3
          obtain ⟨rfl, rfl⟩ := e3
          have hx2m : (s2, a2) ∈ ts := List.mem_of_getElem? hx2
          have p6 := (HR.out _ hx2m).2.2
          simp only at p6
          have HNX := hid (fun w' g1 g2 => l8Next_any i ni ci is p cp ss X hX0 (by omega) hin hsi h1 h2 (by omega) HP1.out (fun q hq => by have := HP2.out q hq; rw [HIS.out] at this; exact this) w' g1 g2)
          have hnl := (nextS_ok hin (by rw [HIS.out]; exact h2) X HP1.out HP2.out).2.2
          have hEQ : decide (s2 = nextS is ss X) = arcT is ts ss (X, (To : Int)) := by
            unfold arcT setAt
            simp [List.getD_eq_getElem?_getD, hx2]
          obtain ⟨NT, hNT⟩ : ∃ NT, NT = !arcT is ts ss (X, (To : Int)) := ⟨_, rfl⟩
          have HWX : Hid (IntKind.u8.wrap X = X) := by rw [IntKind.wrap_u8]; exact hid (by omega)
          have HI4 := hid ((hi.below hbz).below (Below.refl _ _).drew)
          have HP4 := hid ((HR1.out.below hbq).below (Below.refl _ _).drew)
          have HT2 := hid t2
          have HXA := hid hxa
          have HEQ := hid hEQ
          have HNT := hid hNT
          have hjl' : (j : Int) < (az.length : Int) := by omega
          have hToN : (To : Int) < (n : Int) := by omega
          clear hxa hca hbad hx2 hx2m hEQ hNT t2
          go_wp2
          refine wp_region_held_drew (S := fun w' => w'.cell? ⟨b1, o1 + k * 2, none⟩ = some (.slice p ss.length cp) ∧ w'.cell? ⟨b1, o1 + k * 2 + 1, none⟩ = some (.slice (some ⟨b2, o2, none⟩) az.length cr) ∧ w'.cell? ⟨b2, o2 + j * 2, none⟩ = some (.int .i64 X) ∧ True) (by kernel_rfl) (by exact ⟨e0, e1, x0, trivial⟩) (fun hS => ?_)
          refine wpAnyH_take (i := 0) (v := (.slice i ni ci)) rfl (by as_aux_lemma => kernel_rfl) (by as_aux_lemma => kernel_rfl) (by as_aux_lemma => kernel_rfl) (fun _ _ _ h => h) (Or.inl ⟨by kernel_rfl, ?_⟩) hS ?_
          · intro w hSw; (try dsimp only at hSw); obtain ⟨e1, e2, e3, e4⟩ := hSw; go_simp
          (try simp only [Act.put, List.getElem_toArray, List.getElem_cons_zero, List.getElem_cons_succ, List.setIfInBounds_toArray, List.set_cons_zero, List.set_cons_succ])
          refine wpAnyH_take (i := 1) (v := (.pointer (some ⟨b1, o1 + k * 2, none⟩))) rfl (by as_aux_lemma => kernel_rfl) (by as_aux_lemma => kernel_rfl) (by as_aux_lemma => kernel_rfl) (fun _ _ _ h => h) (Or.inl ⟨by kernel_rfl, ?_⟩) hS ?_
          · intro w hSw; (try dsimp only at hSw); obtain ⟨e1, e2, e3, e4⟩ := hSw; go_simp
          (try simp only [Act.put, List.getElem_toArray, List.getElem_cons_zero, List.getElem_cons_succ, List.setIfInBounds_toArray, List.set_cons_zero, List.set_cons_succ])
          refine wpAnyH_take (i := 2) (v := (.pointer (some ⟨b1, o1 + k * 2, none⟩))) rfl (by as_aux_lemma => kernel_rfl) (by as_aux_lemma => kernel_rfl) (by as_aux_lemma => kernel_rfl) (fun _ _ _ h => h) (Or.inl ⟨by kernel_rfl, ?_⟩) hS ?_
          · intro w hSw; (try dsimp only at hSw); obtain ⟨e1, e2, e3, e4⟩ := hSw; go_simp
          (try simp only [Act.put, List.getElem_toArray, List.getElem_cons_zero, List.getElem_cons_succ, List.setIfInBounds_toArray, List.set_cons_zero, List.set_cons_succ])
          refine wpAnyH_take (i := 3) (v := (.pointer (some ⟨b1, o1 + k * 2, none⟩))) rfl (by as_aux_lemma => kernel_rfl) (by as_aux_lemma => kernel_rfl) (by as_aux_lemma => kernel_rfl) (fun _ _ _ h => h) (Or.inl ⟨by kernel_rfl, ?_⟩) hS ?_
          · intro w hSw; (try dsimp only at hSw); obtain ⟨e1, e2, e3, e4⟩ := hSw; go_simp
          (try simp only [Act.put, List.getElem_toArray, List.getElem_cons_zero, List.getElem_cons_succ, List.setIfInBounds_toArray, List.set_cons_zero, List.set_cons_succ])
          refine wpAnyH_take (i := 4) (v := (.slice p ss.length cp)) rfl (by as_aux_lemma => kernel_rfl) (by as_aux_lemma => kernel_rfl) (by as_aux_lemma => kernel_rfl) (fun _ _ _ h => h) (Or.inl ⟨by kernel_rfl, ?_⟩) hS ?_
          · intro w hSw; (try dsimp only at hSw); obtain ⟨e1, e2, e3, e4⟩ := hSw; go_simp
          (try simp only [Act.put, List.getElem_toArray, List.getElem_cons_zero, List.getElem_cons_succ, List.setIfInBounds_toArray, List.set_cons_zero, List.set_cons_succ])
          refine wpAnyH_take (i := 5) (v := (.pointer (some ⟨b1, o1 + k * 2, none⟩))) rfl (by as_aux_lemma => kernel_rfl) (by as_aux_lemma => kernel_rfl) (by as_aux_lemma => kernel_rfl) (fun _ _ _ h => h) (Or.inl ⟨by kernel_rfl, ?_⟩) hS ?_
          · intro w hSw; (try dsimp only at hSw); obtain ⟨e1, e2, e3, e4⟩ := hSw; go_simp
          (try simp only [Act.put, List.getElem_toArray, List.getElem_cons_zero, List.getElem_cons_succ, List.setIfInBounds_toArray, List.set_cons_zero, List.set_cons_succ])
          refine wpAnyH_take (i := 6) (v := (.pointer (some ⟨b1, o1 + k * 2, none⟩))) rfl (by as_aux_lemma => kernel_rfl) (by as_aux_lemma => kernel_rfl) (by as_aux_lemma => kernel_rfl) (fun _ _ _ h => h) (Or.inl ⟨by kernel_rfl, ?_⟩) hS ?_
          · intro w hSw; (try dsimp only at hSw); obtain ⟨e1, e2, e3, e4⟩ := hSw; go_simp
          (try simp only [Act.put, List.getElem_toArray, List.getElem_cons_zero, List.getElem_cons_succ, List.setIfInBounds_toArray, List.set_cons_zero, List.set_cons_succ])
          refine wpAnyH_take (i := 7) (v := (.pointer (some ⟨b1, o1 + k * 2 + 1, none⟩))) rfl (by as_aux_lemma => kernel_rfl) (by as_aux_lemma => kernel_rfl) (by as_aux_lemma => kernel_rfl) (fun _ _ _ h => h) (Or.inl ⟨by kernel_rfl, ?_⟩) hS ?_
          · intro w hSw; (try dsimp only at hSw); obtain ⟨e1, e2, e3, e4⟩ := hSw; go_simp
          (try simp only [Act.put, List.getElem_toArray, List.getElem_cons_zero, List.getElem_cons_succ, List.setIfInBounds_toArray, List.set_cons_zero, List.set_cons_succ])
          refine wpAnyH_take (i := 8) (v := (.slice (some ⟨b2, o2, none⟩) az.length cr)) rfl (by as_aux_lemma => kernel_rfl) (by as_aux_lemma => kernel_rfl) (by as_aux_lemma => kernel_rfl) (fun _ _ _ h => h) (Or.inl ⟨by kernel_rfl, ?_⟩) hS ?_
          · intro w hSw; (try dsimp only at hSw); obtain ⟨e1, e2, e3, e4⟩ := hSw; go_simp
          (try simp only [Act.put, List.getElem_toArray, List.getElem_cons_zero, List.getElem_cons_succ, List.setIfInBounds_toArray, List.set_cons_zero, List.set_cons_succ])
          refine wpAnyH_take (i := 9) (v := (.int .i64 (j : Int))) rfl (by as_aux_lemma => kernel_rfl) (by as_aux_lemma => kernel_rfl) (by as_aux_lemma => kernel_rfl) (fun _ _ _ h => h) (Or.inl ⟨by kernel_rfl, ?_⟩) hS ?_
          · intro w hSw; (try dsimp only at hSw); obtain ⟨e1, e2, e3, e4⟩ := hSw; go_simp
          (try simp only [Act.put, List.getElem_toArray, List.getElem_cons_zero, List.getElem_cons_succ, List.setIfInBounds_toArray, List.set_cons_zero, List.set_cons_succ])
          refine wpAnyH_take (i := 10) (v := (.pointer (some ⟨b2, o2 + j * 2, none⟩))) rfl (by as_aux_lemma => kernel_rfl) (by as_aux_lemma => kernel_rfl) (by as_aux_lemma => kernel_rfl) (fun _ _ _ h => h) (Or.inl ⟨by kernel_rfl, ?_⟩) hS ?_
          · intro w hSw; (try dsimp only at hSw); obtain ⟨e1, e2, e3, e4⟩ := hSw; go_simp
          (try simp only [Act.put, List.getElem_toArray, List.getElem_cons_zero, List.getElem_cons_succ, List.setIfInBounds_toArray, List.set_cons_zero, List.set_cons_succ])
          refine wpAnyH_take (i := 11) (v := (.pointer (some ⟨b2, o2 + j * 2, none⟩))) rfl (by as_aux_lemma => kernel_rfl) (by as_aux_lemma => kernel_rfl) (by as_aux_lemma => kernel_rfl) (fun _ _ _ h => h) (Or.inl ⟨by kernel_rfl, ?_⟩) hS ?_
          · intro w hSw; (try dsimp only at hSw); obtain ⟨e1, e2, e3, e4⟩ := hSw; go_simp
          (try simp only [Act.put, List.getElem_toArray, List.getElem_cons_zero, List.getElem_cons_succ, List.setIfInBounds_toArray, List.set_cons_zero, List.set_cons_succ])
          refine wpAnyH_take (i := 12) (v := (.int .i64 X)) rfl (by as_aux_lemma => kernel_rfl) (by as_aux_lemma => kernel_rfl) (by as_aux_lemma => kernel_rfl) (fun _ _ _ h => h) (Or.inl ⟨by kernel_rfl, ?_⟩) hS ?_
          · intro w hSw; (try dsimp only at hSw); obtain ⟨e1, e2, e3, e4⟩ := hSw; go_simp
          (try simp only [Act.put, List.getElem_toArray, List.getElem_cons_zero, List.getElem_cons_succ, List.setIfInBounds_toArray, List.set_cons_zero, List.set_cons_succ])
          refine wpAnyH_take (i := 13) (v := (.int .u8 X)) rfl (by as_aux_lemma => kernel_rfl) (by as_aux_lemma => kernel_rfl) (by as_aux_lemma => kernel_rfl) (fun _ _ _ h => h) (Or.inl ⟨by kernel_rfl, ?_⟩) hS ?_
          · intro w hSw; (try dsimp only at hSw); obtain ⟨e1, e2, e3, e4⟩ := hSw; have hwx := HWX.out; go_simp
          (try simp only [Act.put, List.getElem_toArray, List.getElem_cons_zero, List.getElem_cons_succ, List.setIfInBounds_toArray, List.set_cons_zero, List.set_cons_succ])
          refine wpAnyH_ready (rs := [14]) (by as_aux_lemma => kernel_rfl) (by simp) ?_
          refine AllReadyH.cons rfl (fun K hK => ?_) AllReadyH.nil
          go_simp
          refine (HNX.out _ HI4.out HP4.out).mono ?_
          rintro e w5 ⟨v5, rfl, ho5, hb5⟩
          obtain ⟨a5, c5, rfl, hr5, hm5⟩ := ho5.rd
          have HR5 := hid hr5
          clear ho5 hr5 hm5
          refine hK.out _ _ (⟨cell_later hb5 hS.1, cell_later hb5 hS.2.1, cell_later hb5 hS.2.2.1, trivial⟩) (fun hS2 => ?_)
          clear hK K hS
          have hS := hS2
          clear hS2
          (try simp only [Act.put, List.getElem_toArray, List.getElem_cons_zero, List.getElem_cons_succ, List.setIfInBounds_toArray, List.set_cons_zero, List.set_cons_succ])
          refine wpAnyH_take (i := 15) (v := (.slice a5 (nextS is ss X).length c5)) rfl (by as_aux_lemma => kernel_rfl) (by as_aux_lemma => kernel_rfl) (by as_aux_lemma => kernel_rfl) (fun _ _ _ h => h) (Or.inl ⟨by kernel_rfl, ?_⟩) hS ?_
          · intro w hSw; (try dsimp only at hSw); obtain ⟨e1, e2, e3, e4⟩ := hSw; go_simp
          (try simp only [Act.put, List.getElem_toArray, List.getElem_cons_zero, List.getElem_cons_succ, List.setIfInBounds_toArray, List.set_cons_zero, List.set_cons_succ])
          refine wpAnyH_done (by kernel_rfl) ?_ _
          clear hS
          have hb45 : Below wr.heap.size wr w5 := (Below.refl wr.heap.size wr).drew.trans (hb5.mono (Nat.le_refl _))
          have HS9 : Hid (w5.drew.cell? ⟨b, 1, none⟩ = some (.slice (some ⟨b1, o1, none⟩) n ca) ∧ w5.drew.cell? ⟨b1, o1 + k * 2 + 1, none⟩ = some (.slice (some ⟨b2, o2, none⟩) az.length cr) ∧ w5.drew.cell? ⟨b2, o2 + j * 2 + 1, none⟩ = some (.int .i64 (To : Int)) ∧ w5.drew.cell? ⟨b1, o1 + To * 2, none⟩ = some (.slice p2 s2.length cp2)) :=
            hid ⟨cell_later hb45.drew eb, cell_later hb45.drew e1, cell_later hb45.drew x1, cell_later hb45.drew t0⟩
          have HSE0 := l8Same_any p2 a5 s2.length (nextS is ss X).length cp2 c5 s2 (nextS is ss X) w5.drew ((HT2.out.below hb45).below (Below.refl _ _).drew) (HR5.out.below (Below.refl _ _).drew) (by omega) (by omega)
          rw [HEQ.out] at HSE0
          have hb05 : Below wo.heap.size wo w5 := hbq.trans (hb45.mono hbq.size)
          cases hT : arcT is ts ss (X, (To : Int))
          · rw [hT] at HSE0
            have HSE := hid HSE0
            have hRf : R = false := by
              rw [HRR.out]
              exact all_not HX.out (all_not HXA.out hT)
            have HRf := hid hRf
            clear hT hRf HSE0 hb5
            go_wp2
            refine wp_region_held_drew (S := fun w' => w'.cell? ⟨b, 1, none⟩ = some (.slice (some ⟨b1, o1, none⟩) n ca) ∧ w'.cell? ⟨b1, o1 + k * 2 + 1, none⟩ = some (.slice (some ⟨b2, o2, none⟩) az.length cr) ∧ w'.cell? ⟨b2, o2 + j * 2 + 1, none⟩ = some (.int .i64 (To : Int)) ∧ w'.cell? ⟨b1, o1 + To * 2, none⟩ = some (.slice p2 s2.length cp2)) (by kernel_rfl) (by exact HS9.out) (fun hS => ?_)
            refine wpAnyH_take (i := 0) (v := (.pointer (some ⟨b, 0, none⟩))) rfl (by as_aux_lemma => kernel_rfl) (by as_aux_lemma => kernel_rfl) (by as_aux_lemma => kernel_rfl) (fun _ _ _ h => h) (Or.inl ⟨by kernel_rfl, ?_⟩) hS ?_
            · intro w hSw; (try dsimp only at hSw); obtain ⟨e1, e2, e3, e4⟩ := hSw; go_simp
            (try simp only [Act.put, List.getElem_toArray, List.getElem_cons_zero, List.getElem_cons_succ, List.setIfInBounds_toArray, List.set_cons_zero, List.set_cons_succ])
            refine wpAnyH_take (i := 1) (v := (.pointer (some ⟨b, 0, none⟩))) rfl (by as_aux_lemma => kernel_rfl) (by as_aux_lemma => kernel_rfl) (by as_aux_lemma => kernel_rfl) (fun _ _ _ h => h) (Or.inl ⟨by kernel_rfl, ?_⟩) hS ?_
            · intro w hSw; (try dsimp only at hSw); obtain ⟨e1, e2, e3, e4⟩ := hSw; go_simp
            (try simp only [Act.put, List.getElem_toArray, List.getElem_cons_zero, List.getElem_cons_succ, List.setIfInBounds_toArray, List.set_cons_zero, List.set_cons_succ])
            refine wpAnyH_take (i := 2) (v := (.pointer (some ⟨b, 1, none⟩))) rfl (by as_aux_lemma => kernel_rfl) (by as_aux_lemma => kernel_rfl) (by as_aux_lemma => kernel_rfl) (fun _ _ _ h => h) (Or.inl ⟨by kernel_rfl, ?_⟩) hS ?_
            · intro w hSw; (try dsimp only at hSw); obtain ⟨e1, e2, e3, e4⟩ := hSw; go_simp
            (try simp only [Act.put, List.getElem_toArray, List.getElem_cons_zero, List.getElem_cons_succ, List.setIfInBounds_toArray, List.set_cons_zero, List.set_cons_succ])
            refine wpAnyH_take (i := 3) (v := (.slice (some ⟨b1, o1, none⟩) n ca)) rfl (by as_aux_lemma => kernel_rfl) (by as_aux_lemma => kernel_rfl) (by as_aux_lemma => kernel_rfl) (fun _ _ _ h => h) (Or.inl ⟨by kernel_rfl, ?_⟩) hS ?_
            · intro w hSw; (try dsimp only at hSw); obtain ⟨e1, e2, e3, e4⟩ := hSw; go_simp
            (try simp only [Act.put, List.getElem_toArray, List.getElem_cons_zero, List.getElem_cons_succ, List.setIfInBounds_toArray, List.set_cons_zero, List.set_cons_succ])
            refine wpAnyH_take (i := 4) (v := (.pointer (some ⟨b1, o1 + k * 2, none⟩))) rfl (by as_aux_lemma => kernel_rfl) (by as_aux_lemma => kernel_rfl) (by as_aux_lemma => kernel_rfl) (fun _ _ _ h => h) (Or.inl ⟨by kernel_rfl, ?_⟩) hS ?_
            · intro w hSw; (try dsimp only at hSw); obtain ⟨e1, e2, e3, e4⟩ := hSw; go_simp
            (try simp only [Act.put, List.getElem_toArray, List.getElem_cons_zero, List.getElem_cons_succ, List.setIfInBounds_toArray, List.set_cons_zero, List.set_cons_succ])
            refine wpAnyH_take (i := 5) (v := (.pointer (some ⟨b1, o1 + k * 2, none⟩))) rfl (by as_aux_lemma => kernel_rfl) (by as_aux_lemma => kernel_rfl) (by as_aux_lemma => kernel_rfl) (fun _ _ _ h => h) (Or.inl ⟨by kernel_rfl, ?_⟩) hS ?_
            · intro w hSw; (try dsimp only at hSw); obtain ⟨e1, e2, e3, e4⟩ := hSw; go_simp
            (try simp only [Act.put, List.getElem_toArray, List.getElem_cons_zero, List.getElem_cons_succ, List.setIfInBounds_toArray, List.set_cons_zero, List.set_cons_succ])
            refine wpAnyH_take (i := 6) (v := (.pointer (some ⟨b1, o1 + k * 2 + 1, none⟩))) rfl (by as_aux_lemma => kernel_rfl) (by as_aux_lemma => kernel_rfl) (by as_aux_lemma => kernel_rfl) (fun _ _ _ h => h) (Or.inl ⟨by kernel_rfl, ?_⟩) hS ?_
            · intro w hSw; (try dsimp only at hSw); obtain ⟨e1, e2, e3, e4⟩ := hSw; go_simp
            (try simp only [Act.put, List.getElem_toArray, List.getElem_cons_zero, List.getElem_cons_succ, List.setIfInBounds_toArray, List.set_cons_zero, List.set_cons_succ])
            refine wpAnyH_take (i := 7) (v := (.slice (some ⟨b2, o2, none⟩) az.length cr)) rfl (by as_aux_lemma => kernel_rfl) (by as_aux_lemma => kernel_rfl) (by as_aux_lemma => kernel_rfl) (fun _ _ _ h => h) (Or.inl ⟨by kernel_rfl, ?_⟩) hS ?_
            · intro w hSw; (try dsimp only at hSw); obtain ⟨e1, e2, e3, e4⟩ := hSw; go_simp
            (try simp only [Act.put, List.getElem_toArray, List.getElem_cons_zero, List.getElem_cons_succ, List.setIfInBounds_toArray, List.set_cons_zero, List.set_cons_succ])
            refine wpAnyH_take (i := 8) (v := (.int .i64 (j : Int))) rfl (by as_aux_lemma => kernel_rfl) (by as_aux_lemma => kernel_rfl) (by as_aux_lemma => kernel_rfl) (fun _ _ _ h => h) (Or.inl ⟨by kernel_rfl, ?_⟩) hS ?_
            · intro w hSw; (try dsimp only at hSw); obtain ⟨e1, e2, e3, e4⟩ := hSw; go_simp
            (try simp only [Act.put, List.getElem_toArray, List.getElem_cons_zero, List.getElem_cons_succ, List.setIfInBounds_toArray, List.set_cons_zero, List.set_cons_succ])
            refine wpAnyH_take (i := 9) (v := (.pointer (some ⟨b2, o2 + j * 2, none⟩))) rfl (by as_aux_lemma => kernel_rfl) (by as_aux_lemma => kernel_rfl) (by as_aux_lemma => kernel_rfl) (fun _ _ _ h => h) (Or.inl ⟨by kernel_rfl, ?_⟩) hS ?_
            · intro w hSw; (try dsimp only at hSw); obtain ⟨e1, e2, e3, e4⟩ := hSw; go_simp
            (try simp only [Act.put, List.getElem_toArray, List.getElem_cons_zero, List.getElem_cons_succ, List.setIfInBounds_toArray, List.set_cons_zero, List.set_cons_succ])
            refine wpAnyH_take (i := 10) (v := (.pointer (some ⟨b2, o2 + j * 2 + 1, none⟩))) rfl (by as_aux_lemma => kernel_rfl) (by as_aux_lemma => kernel_rfl) (by as_aux_lemma => kernel_rfl) (fun _ _ _ h => h) (Or.inl ⟨by kernel_rfl, ?_⟩) hS ?_
            · intro w hSw; (try dsimp only at hSw); obtain ⟨e1, e2, e3, e4⟩ := hSw; go_simp
            (try simp only [Act.put, List.getElem_toArray, List.getElem_cons_zero, List.getElem_cons_succ, List.setIfInBounds_toArray, List.set_cons_zero, List.set_cons_succ])
            refine wpAnyH_take (i := 11) (v := (.int .i64 (To : Int))) rfl (by as_aux_lemma => kernel_rfl) (by as_aux_lemma => kernel_rfl) (by as_aux_lemma => kernel_rfl) (fun _ _ _ h => h) (Or.inl ⟨by kernel_rfl, ?_⟩) hS ?_
            · intro w hSw; (try dsimp only at hSw); obtain ⟨e1, e2, e3, e4⟩ := hSw; go_simp
            (try simp only [Act.put, List.getElem_toArray, List.getElem_cons_zero, List.getElem_cons_succ, List.setIfInBounds_toArray, List.set_cons_zero, List.set_cons_succ])
            refine wpAnyH_take (i := 12) (v := (.pointer (some ⟨b1, o1 + To * 2, none⟩))) rfl (by as_aux_lemma => kernel_rfl) (by as_aux_lemma => kernel_rfl) (by as_aux_lemma => kernel_rfl) (fun _ _ _ h => h) (Or.inl ⟨by kernel_rfl, ?_⟩) hS ?_
            · intro w hSw; (try dsimp only at hSw); obtain ⟨e1, e2, e3, e4⟩ := hSw; go_simp
            (try simp only [Act.put, List.getElem_toArray, List.getElem_cons_zero, List.getElem_cons_succ, List.setIfInBounds_toArray, List.set_cons_zero, List.set_cons_succ])
            refine wpAnyH_take (i := 13) (v := (.pointer (some ⟨b1, o1 + To * 2, none⟩))) rfl (by as_aux_lemma => kernel_rfl) (by as_aux_lemma => kernel_rfl) (by as_aux_lemma => kernel_rfl) (fun _ _ _ h => h) (Or.inl ⟨by kernel_rfl, ?_⟩) hS ?_
            · intro w hSw; (try dsimp only at hSw); obtain ⟨e1, e2, e3, e4⟩ := hSw; go_simp
            (try simp only [Act.put, List.getElem_toArray, List.getElem_cons_zero, List.getElem_cons_succ, List.setIfInBounds_toArray, List.set_cons_zero, List.set_cons_succ])
            refine wpAnyH_take (i := 14) (v := (.slice p2 s2.length cp2)) rfl (by as_aux_lemma => kernel_rfl) (by as_aux_lemma => kernel_rfl) (by as_aux_lemma => kernel_rfl) (fun _ _ _ h => h) (Or.inl ⟨by kernel_rfl, ?_⟩) hS ?_
            · intro w hSw; (try dsimp only at hSw); obtain ⟨e1, e2, e3, e4⟩ := hSw; go_simp
            (try simp only [Act.put, List.getElem_toArray, List.getElem_cons_zero, List.getElem_cons_succ, List.setIfInBounds_toArray, List.set_cons_zero, List.set_cons_succ])
            refine wpAnyH_take (i := 15) (v := (.slice a5 (nextS is ss X).length c5)) rfl (by as_aux_lemma => kernel_rfl) (by as_aux_lemma => kernel_rfl) (by as_aux_lemma => kernel_rfl) (fun _ _ _ h => h) (Or.inl ⟨by kernel_rfl, ?_⟩) hS ?_
            · intro w hSw; (try dsimp only at hSw); obtain ⟨e1, e2, e3, e4⟩ := hSw; go_simp
            (try simp only [Act.put, List.getElem_toArray, List.getElem_cons_zero, List.getElem_cons_succ, List.setIfInBounds_toArray, List.set_cons_zero, List.set_cons_succ])
            refine wpAnyH_ready (rs := [16]) (by as_aux_lemma => kernel_rfl) (by simp) ?_
            refine AllReadyH.cons rfl (fun K hK => ?_) AllReadyH.nil
            go_simp
            refine HSE.out.mono ?_
            rintro e w6 ⟨rfl, d6, rfl⟩
            refine hK.out _ _ (hS) (fun hS2 => ?_)
            clear hK K hS
            have hS := hS2
            clear hS2
            (try simp only [Act.put, List.getElem_toArray, List.getElem_cons_zero, List.getElem_cons_succ, List.setIfInBounds_toArray, List.set_cons_zero, List.set_cons_succ])
            refine wpAnyH_take (i := 17) (v := (.bool true)) rfl (by as_aux_lemma => kernel_rfl) (by as_aux_lemma => kernel_rfl) (by as_aux_lemma => kernel_rfl) (fun _ _ _ h => h) (Or.inl ⟨by kernel_rfl, ?_⟩) hS ?_
            · intro w hSw; (try dsimp only at hSw); obtain ⟨e1, e2, e3, e4⟩ := hSw; go_simp
            (try simp only [Act.put, List.getElem_toArray, List.getElem_cons_zero, List.getElem_cons_succ, List.setIfInBounds_toArray, List.set_cons_zero, List.set_cons_succ])
            refine wpAnyH_done (by kernel_rfl) ?_ _
            clear hS
            go_wp2
            go_ret
            exact ⟨ret_bool HRf.out.symm, hbw.trans ((below_drewN hb05.drew d6).mono hbw.size)⟩
          · rw [hT] at HSE0
            have HSE := hid HSE0
            have hall2 : Hid ((az.take (j + 1)).all (arcT is ts ss) = true) := by
              rw [all_take HXA.out, hallj.out, hT]
              exact hid rfl
            clear hT HSE0 hb5
            go_wp2
            refine wp_region_held_drew (S := fun w' => w'.cell? ⟨b, 1, none⟩ = some (.slice (some ⟨b1, o1, none⟩) n ca) ∧ w'.cell? ⟨b1, o1 + k * 2 + 1, none⟩ = some (.slice (some ⟨b2, o2, none⟩) az.length cr) ∧ w'.cell? ⟨b2, o2 + j * 2 + 1, none⟩ = some (.int .i64 (To : Int)) ∧ w'.cell? ⟨b1, o1 + To * 2, none⟩ = some (.slice p2 s2.length cp2)) (by kernel_rfl) (by exact HS9.out) (fun hS => ?_)
            refine wpAnyH_take (i := 0) (v := (.pointer (some ⟨b, 0, none⟩))) rfl (by as_aux_lemma => kernel_rfl) (by as_aux_lemma => kernel_rfl) (by as_aux_lemma => kernel_rfl) (fun _ _ _ h => h) (Or.inl ⟨by kernel_rfl, ?_⟩) hS ?_
            · intro w hSw; (try dsimp only at hSw); obtain ⟨e1, e2, e3, e4⟩ := hSw; go_simp
            (try simp only [Act.put, List.getElem_toArray, List.getElem_cons_zero, List.getElem_cons_succ, List.setIfInBounds_toArray, List.set_cons_zero, List.set_cons_succ])
            refine wpAnyH_take (i := 1) (v := (.pointer (some ⟨b, 0, none⟩))) rfl (by as_aux_lemma => kernel_rfl) (by as_aux_lemma => kernel_rfl) (by as_aux_lemma => kernel_rfl) (fun _ _ _ h => h) (Or.inl ⟨by kernel_rfl, ?_⟩) hS ?_
            · intro w hSw; (try dsimp only at hSw); obtain ⟨e1, e2, e3, e4⟩ := hSw; go_simp
            (try simp only [Act.put, List.getElem_toArray, List.getElem_cons_zero, List.getElem_cons_succ, List.setIfInBounds_toArray, List.set_cons_zero, List.set_cons_succ])
            refine wpAnyH_take (i := 2) (v := (.pointer (some ⟨b, 1, none⟩))) rfl (by as_aux_lemma => kernel_rfl) (by as_aux_lemma => kernel_rfl) (by as_aux_lemma => kernel_rfl) (fun _ _ _ h => h) (Or.inl ⟨by kernel_rfl, ?_⟩) hS ?_
            · intro w hSw; (try dsimp only at hSw); obtain ⟨e1, e2, e3, e4⟩ := hSw; go_simp
            (try simp only [Act.put, List.getElem_toArray, List.getElem_cons_zero, List.getElem_cons_succ, List.setIfInBounds_toArray, List.set_cons_zero, List.set_cons_succ])
            refine wpAnyH_take (i := 3) (v := (.slice (some ⟨b1, o1, none⟩) n ca)) rfl (by as_aux_lemma => kernel_rfl) (by as_aux_lemma => kernel_rfl) (by as_aux_lemma => kernel_rfl) (fun _ _ _ h => h) (Or.inl ⟨by kernel_rfl, ?_⟩) hS ?_
            · intro w hSw; (try dsimp only at hSw); obtain ⟨e1, e2, e3, e4⟩ := hSw; go_simp
            (try simp only [Act.put, List.getElem_toArray, List.getElem_cons_zero, List.getElem_cons_succ, List.setIfInBounds_toArray, List.set_cons_zero, List.set_cons_succ])
            refine wpAnyH_take (i := 4) (v := (.pointer (some ⟨b1, o1 + k * 2, none⟩))) rfl (by as_aux_lemma => kernel_rfl) (by as_aux_lemma => kernel_rfl) (by as_aux_lemma => kernel_rfl) (fun _ _ _ h => h) (Or.inl ⟨by kernel_rfl, ?_⟩) hS ?_
            · intro w hSw; (try dsimp only at hSw); obtain ⟨e1, e2, e3, e4⟩ := hSw; go_simp
            (try simp only [Act.put, List.getElem_toArray, List.getElem_cons_zero, List.getElem_cons_succ, List.setIfInBounds_toArray, List.set_cons_zero, List.set_cons_succ])
            refine wpAnyH_take (i := 5) (v := (.pointer (some ⟨b1, o1 + k * 2, none⟩))) rfl (by as_aux_lemma => kernel_rfl) (by as_aux_lemma => kernel_rfl) (by as_aux_lemma => kernel_rfl) (fun _ _ _ h => h) (Or.inl ⟨by kernel_rfl, ?_⟩) hS ?_
            · intro w hSw; (try dsimp only at hSw); obtain ⟨e1, e2, e3, e4⟩ := hSw; go_simp
            (try simp only [Act.put, List.getElem_toArray, List.getElem_cons_zero, List.getElem_cons_succ, List.setIfInBounds_toArray, List.set_cons_zero, List.set_cons_succ])
            refine wpAnyH_take (i := 6) (v := (.pointer (some ⟨b1, o1 + k * 2 + 1, none⟩))) rfl (by as_aux_lemma => kernel_rfl) (by as_aux_lemma => kernel_rfl) (by as_aux_lemma => kernel_rfl) (fun _ _ _ h => h) (Or.inl ⟨by kernel_rfl, ?_⟩) hS ?_
            · intro w hSw; (try dsimp only at hSw); obtain ⟨e1, e2, e3, e4⟩ := hSw; go_simp
            (try simp only [Act.put, List.getElem_toArray, List.getElem_cons_zero, List.getElem_cons_succ, List.setIfInBounds_toArray, List.set_cons_zero, List.set_cons_succ])
            refine wpAnyH_take (i := 7) (v := (.slice (some ⟨b2, o2, none⟩) az.length cr)) rfl (by as_aux_lemma => kernel_rfl) (by as_aux_lemma => kernel_rfl) (by as_aux_lemma => kernel_rfl) (fun _ _ _ h => h) (Or.inl ⟨by kernel_rfl, ?_⟩) hS ?_
            · intro w hSw; (try dsimp only at hSw); obtain ⟨e1, e2, e3, e4⟩ := hSw; go_simp
            (try simp only [Act.put, List.getElem_toArray, List.getElem_cons_zero, List.getElem_cons_succ, List.setIfInBounds_toArray, List.set_cons_zero, List.set_cons_succ])
            refine wpAnyH_take (i := 8) (v := (.int .i64 (j : Int))) rfl (by as_aux_lemma => kernel_rfl) (by as_aux_lemma => kernel_rfl) (by as_aux_lemma => kernel_rfl) (fun _ _ _ h => h) (Or.inl ⟨by kernel_rfl, ?_⟩) hS ?_
            · intro w hSw; (try dsimp only at hSw); obtain ⟨e1, e2, e3, e4⟩ := hSw; go_simp
            (try simp only [Act.put, List.getElem_toArray, List.getElem_cons_zero, List.getElem_cons_succ, List.setIfInBounds_toArray, List.set_cons_zero, List.set_cons_succ])
            refine wpAnyH_take (i := 9) (v := (.pointer (some ⟨b2, o2 + j * 2, none⟩))) rfl (by as_aux_lemma => kernel_rfl) (by as_aux_lemma => kernel_rfl) (by as_aux_lemma => kernel_rfl) (fun _ _ _ h => h) (Or.inl ⟨by kernel_rfl, ?_⟩) hS ?_
            · intro w hSw; (try dsimp only at hSw); obtain ⟨e1, e2, e3, e4⟩ := hSw; go_simp
            (try simp only [Act.put, List.getElem_toArray, List.getElem_cons_zero, List.getElem_cons_succ, List.setIfInBounds_toArray, List.set_cons_zero, List.set_cons_succ])
            refine wpAnyH_take (i := 10) (v := (.pointer (some ⟨b2, o2 + j * 2 + 1, none⟩))) rfl (by as_aux_lemma => kernel_rfl) (by as_aux_lemma => kernel_rfl) (by as_aux_lemma => kernel_rfl) (fun _ _ _ h => h) (Or.inl ⟨by kernel_rfl, ?_⟩) hS ?_
            · intro w hSw; (try dsimp only at hSw); obtain ⟨e1, e2, e3, e4⟩ := hSw; go_simp
            (try simp only [Act.put, List.getElem_toArray, List.getElem_cons_zero, List.getElem_cons_succ, List.setIfInBounds_toArray, List.set_cons_zero, List.set_cons_succ])
            refine wpAnyH_take (i := 11) (v := (.int .i64 (To : Int))) rfl (by as_aux_lemma => kernel_rfl) (by as_aux_lemma => kernel_rfl) (by as_aux_lemma => kernel_rfl) (fun _ _ _ h => h) (Or.inl ⟨by kernel_rfl, ?_⟩) hS ?_
            · intro w hSw; (try dsimp only at hSw); obtain ⟨e1, e2, e3, e4⟩ := hSw; go_simp
            (try simp only [Act.put, List.getElem_toArray, List.getElem_cons_zero, List.getElem_cons_succ, List.setIfInBounds_toArray, List.set_cons_zero, List.set_cons_succ])
            refine wpAnyH_take (i := 12) (v := (.pointer (some ⟨b1, o1 + To * 2, none⟩))) rfl (by as_aux_lemma => kernel_rfl) (by as_aux_lemma => kernel_rfl) (by as_aux_lemma => kernel_rfl) (fun _ _ _ h => h) (Or.inl ⟨by kernel_rfl, ?_⟩) hS ?_
            · intro w hSw; (try dsimp only at hSw); obtain ⟨e1, e2, e3, e4⟩ := hSw; go_simp
            (try simp only [Act.put, List.getElem_toArray, List.getElem_cons_zero, List.getElem_cons_succ, List.setIfInBounds_toArray, List.set_cons_zero, List.set_cons_succ])
            refine wpAnyH_take (i := 13) (v := (.pointer (some ⟨b1, o1 + To * 2, none⟩))) rfl (by as_aux_lemma => kernel_rfl) (by as_aux_lemma => kernel_rfl) (by as_aux_lemma => kernel_rfl) (fun _ _ _ h => h) (Or.inl ⟨by kernel_rfl, ?_⟩) hS ?_
            · intro w hSw; (try dsimp only at hSw); obtain ⟨e1, e2, e3, e4⟩ := hSw; go_simp
            (try simp only [Act.put, List.getElem_toArray, List.getElem_cons_zero, List.getElem_cons_succ, List.setIfInBounds_toArray, List.set_cons_zero, List.set_cons_succ])
            refine wpAnyH_take (i := 14) (v := (.slice p2 s2.length cp2)) rfl (by as_aux_lemma => kernel_rfl) (by as_aux_lemma => kernel_rfl) (by as_aux_lemma => kernel_rfl) (fun _ _ _ h => h) (Or.inl ⟨by kernel_rfl, ?_⟩) hS ?_
            · intro w hSw; (try dsimp only at hSw); obtain ⟨e1, e2, e3, e4⟩ := hSw; go_simp
            (try simp only [Act.put, List.getElem_toArray, List.getElem_cons_zero, List.getElem_cons_succ, List.setIfInBounds_toArray, List.set_cons_zero, List.set_cons_succ])
            refine wpAnyH_take (i := 15) (v := (.slice a5 (nextS is ss X).length c5)) rfl (by as_aux_lemma => kernel_rfl) (by as_aux_lemma => kernel_rfl) (by as_aux_lemma => kernel_rfl) (fun _ _ _ h => h) (Or.inl ⟨by kernel_rfl, ?_⟩) hS ?_
            · intro w hSw; (try dsimp only at hSw); obtain ⟨e1, e2, e3, e4⟩ := hSw; go_simp
            (try simp only [Act.put, List.getElem_toArray, List.getElem_cons_zero, List.getElem_cons_succ, List.setIfInBounds_toArray, List.set_cons_zero, List.set_cons_succ])
            refine wpAnyH_ready (rs := [16]) (by as_aux_lemma => kernel_rfl) (by simp) ?_
            refine AllReadyH.cons rfl (fun K hK => ?_) AllReadyH.nil
            go_simp
            refine HSE.out.mono ?_
            rintro e w6 ⟨rfl, d6, rfl⟩
            refine hK.out _ _ (hS) (fun hS2 => ?_)
            clear hK K hS
            have hS := hS2
            clear hS2
            (try simp only [Act.put, List.getElem_toArray, List.getElem_cons_zero, List.getElem_cons_succ, List.setIfInBounds_toArray, List.set_cons_zero, List.set_cons_succ])
            refine wpAnyH_take (i := 17) (v := (.bool false)) rfl (by as_aux_lemma => kernel_rfl) (by as_aux_lemma => kernel_rfl) (by as_aux_lemma => kernel_rfl) (fun _ _ _ h => h) (Or.inl ⟨by kernel_rfl, ?_⟩) hS ?_
            · intro w hSw; (try dsimp only at hSw); obtain ⟨e1, e2, e3, e4⟩ := hSw; go_simp
            (try simp only [Act.put, List.getElem_toArray, List.getElem_cons_zero, List.getElem_cons_succ, List.setIfInBounds_toArray, List.set_cons_zero, List.set_cons_succ])
            refine wpAnyH_done (by kernel_rfl) ?_ _
            clear hS
            go_wp2
            go_roundw
            case rel => exact ⟨j + 1, by omega, by go_num, (by first | exact below_drewN hb05.drew d6 | exact below_drewN hb05 (1 + d6)), hall2⟩
            case measure => simp [intOf]; omega
        · have h3 := hallj.out
          rw [List.take_of_length_le (by omega)] at h3
          have hall2 : Hid ((ts.take (k + 1)).all (stT is ts) = true) := by
            rw [all_take HX.out, hall.out, stT, h3]
            exact hid rfl
          clear h3 hallj
          go_wp2
          go_roundw
          case rel => exact ⟨k + 1, by omega, by go_num, hbz, hall2⟩
          case measure => simp [intOf]; omega
    · have h3 := hall.out
      rw [List.take_of_length_le (by rw [HLN.out]; omega)] at h3
      have hRt : R = true := HRR.out.trans h3
      have HRt := hid hRt
      clear h3 hRt hall
      go_wp2
      go_ret
      exact ⟨ret_bool HRt.out.symm, hbw⟩

set_option maxHeartbeats 1600000 in
set_option maxRecDepth 20000 in
theorem specTableTrue_any (i : Option Addr) (ni ci : Nat) (cs : List In) (z : Int) (a : Option Addr) (n ca : Nat) (ts : List St) (w : World) (hi : RdR inE 8 w i ni cs) (hsi : inSum cs ≤ 1048576) (hni : ni ≤ 1048576) (ht : RdT w a n ts) (hs : (n : Int) + stN ts ≤ 1048576) :
    Calls Try.prog 50 #[.slice i ni ci, .agg #[.int .i64 z, .slice a n ca]] w fun e w' => e = .returned (.bool (decide (tabF cs z ts = 0) && tabT cs ts)) ∧ Below w.heap.size w w' := by
  have B1 : ∀ o1, Below w.heap.size w (w.alloc o1) := fun o1 => (Below.refl _ _).alloc (Nat.le_refl _) o1
  have HCF := hid (fun w' h1 h2 h3 h4 => l8Fault_any i ni ci cs w.heap.size z a n ca ts w' h1 hsi hni h2 h3 h4 hs)
  by_cases hf : tabF cs z ts = 0
  case neg =>
    have e : (decide (tabF cs z ts = 0) && tabT cs ts) = false := by simp [hf]
    rw [e]
    generalize tabF cs z ts = T at *
    have hf' : (T == 0) = false := by simpa using hf
    clear e hf
    go_enter Try.func50, Try.ntmps50
    go_wp2_with fail
    refine (HCF.out _ (hi.below (B1 _)) (by simp [go_sem]) (by simp [go_sem]) (ht.below (B1 _))).mono ?_
    rintro e w1 ⟨rfl, hb1⟩
    go_wp2
    go_ret
    exact ⟨rfl, below_slot hb1⟩
  obtain ⟨h1, h2, h3, h4, h5⟩ := tabF_ok hf
  have hall := stateGo_all h4
  have hp := progFault_ok h1
  have hlen := hi.1
  have hln := ht.len
  have hgood : ∀ y ∈ ts, ((y.1.Pairwise (· < ·) ∧ ∀ z ∈ y.1, 0 ≤ z ∧ z < (cs.length : Int)) ∧ ∀ a ∈ y.2, ¬ ArcBad n a) ∧ y.2.length ≤ 256 ∧ y.1.length ≤ 80 := by
    intro y hy
    obtain ⟨k1, k2⟩ := stateF_ok (hall y hy)
    obtain ⟨k3, k4⟩ := arcsF_ok k2
    rw [hln] at k4
    exact ⟨⟨⟨setFault_rise k1, (setFault_ok k1).2.2⟩, k4⟩, k3, (setFault_ok k1).2.1⟩
  have h80 : ni ≤ 80 := by rw [← hlen]; exact hp.2.1
  have h81 : 1 ≤ ni := by rw [← hlen]; exact hp.1
  have hn12 : n ≤ 12 := by omega
  have HIT := hid (fun w' g1 g2 g3 => l8True_any i ni ci cs w.heap.size a n ca ts w' g1 hsi (inside_of h1) h81 h80 g2 g3 hn12 hgood)
  rw [hf] at HCF
  rw [hf]
  have e : (decide ((0 : Int) = 0) && tabT cs ts) = tabT cs ts := by simp
  rw [e]
  generalize tabT cs ts = R at *
  clear h1 h2 h3 h4 h5 hall hp hlen hln hgood e hf
  go_enter Try.func50, Try.ntmps50
  go_wp2_with fail
  refine (HCF.out _ (hi.below (B1 _)) (by simp [go_sem]) (by simp [go_sem]) (ht.below (B1 _))).mono ?_
  rintro e w1 ⟨rfl, hb1⟩
  have hb01 := below_slot hb1
  have c1 : w1.cell? ⟨w.heap.size, 1, none⟩ = some (.slice a n ca) := cell_later hb1 (by simp [go_sem])
  clear hb1
  go_wp2_with fail
  refine (HIT.out _ (hi.below hb01) c1 (ht.below hb01)).mono ?_
  rintro e w2 ⟨rfl, hb2⟩
  go_wp2
  go_ret
  exact ⟨rfl, hb01.trans (hb2.mono hb01.size)⟩
end Go.Proofs.Ytoggkcgldckekaa
