/-
  Chapter 7: the specification's l7Emit.
-/
import Derived.Test.YtocophekfbhfbaaEmitM
import Derived.Test.YtocophekfbhfbaaSet8M
import Derived.Deep.RegionHeld3
namespace Go.Proofs.Ytocophekfbhfbaa
open Go.RowKit
set_option linter.unusedVariables false
set_option linter.unusedSimpArgs false

/-- An own row that grew behind what is kept. -/
theorem app_below {w0 w w' : World} {v : Value} {n : Nat} {xs : List In} (hb : Below w0.heap.size w0 w) (hown : OwnR inE 8 252 w w0.heap.size v n xs) (hg : w.grownBy w' v.ownBlock) : Below w0.heap.size w0 w' :=
  hb.grown hg hb.size (fun j hj => (hown.lt j hj).1)

theorem own_len {w : World} {b n m : Nat} {v : Value} {xs : List In} (h : OwnR inE 8 252 w b v n xs) (e : n = m) : OwnR inE 8 252 w b v m xs := e ▸ h

theorem own_as {w : World} {b n : Nat} {v : Value} {xs R : List In} (h : OwnR inE 8 252 w b v n xs) (e : xs = R) : OwnR inE 8 252 w b v R.length R := by
  subst e
  exact own_len h h.1.symm

theorem own_addr {w : World} {b n : Nat} {v : Value} {xs : List In} (h : OwnR inE 8 252 w b v n xs) (hn : 0 < n) : ∃ g cap, v = .slice (some ⟨g, 0, none⟩) n cap := by
  rcases h.2.2 with ⟨rfl, rfl⟩ | ⟨g, cap, cur, rfl, -⟩
  · omega
  · exact ⟨g, cap, rfl⟩

theorem set_at {A B : List In} {x y : In} {n : Nat} (h : A.length = n) : (A ++ x :: B).set n y = A ++ y :: B := by
  subst h
  simp

set_option maxHeartbeats 12800000 in
set_option maxRecDepth 20000 in
theorem l7Emit_any (w0 : World) (a : Option Addr) (n ca : Nat) (ns : List Nd) (ha : RdR ndE 5 w0 a n ns) (bs : List Int) (hb : Beg ns n bs) : ∀ (f p : Nat) (v : Value) (out : List In) (w : World), p < n → p < f → OwnR inE 8 252 w w0.heap.size v out.length out → Below w0.heap.size w0 w → (out.length : Int) + 2 * ((p : Int) + 1) ≤ 1000 + 2 * bs.getD p 0 →
    Calls Try.prog 230 #[v, .slice a n ca, .int .i64 (p : Int)] w fun r w' => ∃ v', r = .returned v' ∧ OwnR inE 8 252 w' w0.heap.size v' (out ++ cod ns f out.length p).length (out ++ cod ns f out.length p) ∧ Below w0.heap.size w0 w'
  | 0, p, v, out, w, hp, hf, ho, hbw, hK => by omega
  | f + 1, p, v, out, w, hp, hf, ho, hbw, hK => by
    have ih := fun p' v' out' w' => l7Emit_any w0 a n ca ns ha bs hb f p' v' out' w'
    have hlen := ha.1
    have cl := fun here q hq hq' => cod_len hb hlen.symm f here q hq hq'
    obtain ⟨va, vc, rfl, -, -, -⟩ := ho.rd inE_len
    obtain ⟨b1, o1, i, rfl, hx, hc1⟩ := ha.at hp
    have hF := (hb.at_ p i hp hx).1.1
    have hbd := hb.bd (by omega) hp
    have hlf := fun h => hb.leaf hp hx h
    have hon := fun h => hb.one hp hx h
    have htw := fun h => hb.two hp hx h
    have HX : Hid _ := hx
    obtain ⟨e0, e1, e2, e3, e4⟩ := five hc1
    have c0 := cell_later hbw e0
    have c1 := cell_later hbw e1
    have c2 := cell_later hbw e2
    have c3 := cell_later hbw e3
    have c4 := cell_later hbw e4
    have hl1000 : out.length ≤ 1000 := by omega
    have hpn : (p : Int) < (n : Int) := by omega
    have hz0w := hbw.size
    obtain ⟨N, hN⟩ : ∃ N, N = out.length := ⟨_, rfl⟩
    rw [← hN] at ho hK hl1000 ⊢
    have HN : Hid _ := hN
    clear hx hc1 hN hb
    obtain ⟨k, c, s, l, r⟩ := i
    simp only at e0 e1 e2 e3 e4 c0 c1 c2 c3 c4 hF hlf hon htw
    by_cases hk : k = 1
    case pos =>
      subst hk
      rw [cod_1 HX.out rfl]
      clear ih cl hlf hon htw
      obtain ⟨R, hR⟩ : ∃ R, out ++ [nI 3 ((N : Int) + 1) 0] = R := ⟨_, rfl⟩
      rw [hR]
      have HRR : Hid _ := hR
      clear hR
      go_enter Try.func230, Try.ntmps230
      go_wp2_with (at_builtin; refine wpList_appIn rfl _ _ rfl w0.heap.size _ _ _ rfl (ho.alloc _) _ _ (nI 3 ((N : Int) + 1) 0) rfl (cellsI _ (nI 3 ((N : Int) + 1) 0) _) (by omega) (by simp; omega) ?_)
      intro v5 w5 ho5 hg5
      have hb5 := app_below (hbw.alloc hbw.size _) (ho.alloc _) hg5
      have HO5 : Hid _ := ho5
      clear ho5 hg5
      go_wp2
      go_ret
      exact ⟨v5, rfl, own_as HO5.out (by first | exact HRR.out | (rw [← HRR.out]; first | rfl | simp [List.append_assoc])), hb5⟩
    have hk1 : (k == 1) = false := by simpa using hk
    have hm1 : k ≠ 1 := hk
    clear hk
    by_cases hk : k = 6
    case pos =>
      subst hk
      rw [cod_6 HX.out rfl]
      clear ih cl hlf hon htw
      obtain ⟨R, hR⟩ : ∃ R, out ++ [nI 4 ((N : Int) + 1) 0] = R := ⟨_, rfl⟩
      rw [hR]
      have HRR : Hid _ := hR
      clear hR
      go_enter Try.func230, Try.ntmps230
      go_wp2_with (at_builtin; refine wpList_appIn rfl _ _ rfl w0.heap.size _ _ _ rfl (ho.alloc _) _ _ (nI 4 ((N : Int) + 1) 0) rfl (cellsI _ (nI 4 ((N : Int) + 1) 0) _) (by omega) (by simp; omega) ?_)
      intro v5 w5 ho5 hg5
      have hb5 := app_below (hbw.alloc hbw.size _) (ho.alloc _) hg5
      have HO5 : Hid _ := ho5
      clear ho5 hg5
      go_wp2
      go_ret
      exact ⟨v5, rfl, own_as HO5.out (by first | exact HRR.out | (rw [← HRR.out]; first | rfl | simp [List.append_assoc])), hb5⟩
    have hk6 : (k == 6) = false := by simpa using hk
    have hm6 : k ≠ 6 := hk
    clear hk
    by_cases hk : k = 7
    case pos =>
      subst hk
      rw [cod_7 HX.out rfl]
      clear ih cl hlf hon htw
      obtain ⟨R, hR⟩ : ∃ R, out ++ [nI 5 ((N : Int) + 1) 0] = R := ⟨_, rfl⟩
      rw [hR]
      have HRR : Hid _ := hR
      clear hR
      go_enter Try.func230, Try.ntmps230
      go_wp2_with (at_builtin; refine wpList_appIn rfl _ _ rfl w0.heap.size _ _ _ rfl (ho.alloc _) _ _ (nI 5 ((N : Int) + 1) 0) rfl (cellsI _ (nI 5 ((N : Int) + 1) 0) _) (by omega) (by simp; omega) ?_)
      intro v5 w5 ho5 hg5
      have hb5 := app_below (hbw.alloc hbw.size _) (ho.alloc _) hg5
      have HO5 : Hid _ := ho5
      clear ho5 hg5
      go_wp2
      go_ret
      exact ⟨v5, rfl, own_as HO5.out (by first | exact HRR.out | (rw [← HRR.out]; first | rfl | simp [List.append_assoc])), hb5⟩
    have hk7 : (k == 7) = false := by simpa using hk
    have hm7 : k ≠ 7 := hk
    clear hk
    by_cases hk : k = 11
    case pos =>
      obtain ⟨hp1, hr, hb1', hl, hb2, hbl⟩ := htw (.inl hk)
      obtain ⟨ln, rfl⟩ : ∃ q : Nat, l = (q : Int) := ⟨l.toNat, by omega⟩
      obtain ⟨rn, rfl⟩ : ∃ q : Nat, r = (q : Int) := ⟨r.toNat, by omega⟩
      have hrn : rn = p - 1 := by omega
      rw [← hrn] at hl hb1' hb2
      rw [Int.toNat_natCast] at hbl
      subst hk
      have hc1 := cl N ln (by omega) (by omega)
      rw [cod_11 HX.out rfl]
      simp only [Int.toNat_natCast]
      have ihA := fun w' h1 h2 => ih ln (.slice va N vc) out w' (by omega) (by omega) h1 h2 (by rw [← HN.out]; omega)
      rw [← HN.out] at ihA
      obtain ⟨C1, hC1⟩ : ∃ C, C = cod ns f N ln := ⟨_, rfl⟩
      rw [← hC1] at ihA hc1 ⊢
      have hM : (out ++ C1).length = N + C1.length := by rw [List.length_append, ← HN.out]
      have ihB := fun v' w' h1 h2 => ih rn v' (out ++ C1) w' (by omega) (by omega) h1 h2 (by rw [hM]; rw [hbl] at hc1; omega)
      rw [hM] at ihB
      have happ : out ++ (C1 ++ cod ns f (N + C1.length) rn) = out ++ C1 ++ cod ns f (N + C1.length) rn := by rw [List.append_assoc]
      rw [happ]
      generalize out ++ C1 ++ cod ns f (N + C1.length) rn = R at ihB ⊢
      have HA : Hid _ := ihA
      have HB : Hid _ := ihB
      have HM : Hid _ := hM
      clear ihA ihB ih cl hc1 hC1 hM happ hlf hon htw hr hb1' hl hb2 hbl hrn hK hbd hp1
      go_enter Try.func230, Try.ntmps230
      go_wp2
      have hK0 := trivial
      refine wp_region_held_drew (S := fun w' => w'.cell? ⟨b1, o1 + p * 5 + 3, none⟩ = some (.int .i64 (ln : Int)) ∧ w'.cell? ⟨b1, o1 + p * 5 + 4, none⟩ = some (.int .i64 (rn : Int))) (by kernel_rfl) (by exact ⟨cell_later hbw.drew e3, cell_later hbw.drew e4⟩) (fun hS => ?_)
      refine wpAnyH_take (i := 0) (v := (.slice va N vc)) rfl (by as_aux_lemma => kernel_rfl) (by as_aux_lemma => kernel_rfl) (by as_aux_lemma => kernel_rfl) (fun _ _ _ h => h) (Or.inl ⟨by kernel_rfl, ?_⟩) hS ?_
      · intro w hSw; (try dsimp only at hSw); go_simp
      simp only [Act.put, List.getElem_toArray, List.getElem_cons_zero, List.getElem_cons_succ, List.setIfInBounds_toArray, List.set_cons_zero, List.set_cons_succ]
      refine wpAnyH_take (i := 1) (v := (.slice (some ⟨b1, o1, none⟩) n ca)) rfl (by as_aux_lemma => kernel_rfl) (by as_aux_lemma => kernel_rfl) (by as_aux_lemma => kernel_rfl) (fun _ _ _ h => h) (Or.inl ⟨by kernel_rfl, ?_⟩) hS ?_
      · intro w hSw; (try dsimp only at hSw); go_simp
      simp only [Act.put, List.getElem_toArray, List.getElem_cons_zero, List.getElem_cons_succ, List.setIfInBounds_toArray, List.set_cons_zero, List.set_cons_succ]
      refine wpAnyH_take (i := 2) (v := (.pointer (some ⟨b1, o1 + p * 5, none⟩))) rfl (by as_aux_lemma => kernel_rfl) (by as_aux_lemma => kernel_rfl) (by as_aux_lemma => kernel_rfl) (fun _ _ _ h => h) (Or.inl ⟨by kernel_rfl, ?_⟩) hS ?_
      · intro w hSw; (try dsimp only at hSw); go_simp
      simp only [Act.put, List.getElem_toArray, List.getElem_cons_zero, List.getElem_cons_succ, List.setIfInBounds_toArray, List.set_cons_zero, List.set_cons_succ]
      refine wpAnyH_take (i := 3) (v := (.pointer (some ⟨b1, o1 + p * 5, none⟩))) rfl (by as_aux_lemma => kernel_rfl) (by as_aux_lemma => kernel_rfl) (by as_aux_lemma => kernel_rfl) (fun _ _ _ h => h) (Or.inl ⟨by kernel_rfl, ?_⟩) hS ?_
      · intro w hSw; (try dsimp only at hSw); go_simp
      simp only [Act.put, List.getElem_toArray, List.getElem_cons_zero, List.getElem_cons_succ, List.setIfInBounds_toArray, List.set_cons_zero, List.set_cons_succ]
      refine wpAnyH_take (i := 4) (v := (.pointer (some ⟨b1, o1 + p * 5 + 3, none⟩))) rfl (by as_aux_lemma => kernel_rfl) (by as_aux_lemma => kernel_rfl) (by as_aux_lemma => kernel_rfl) (fun _ _ _ h => h) (Or.inl ⟨by kernel_rfl, ?_⟩) hS ?_
      · intro w hSw; (try dsimp only at hSw); go_simp
      simp only [Act.put, List.getElem_toArray, List.getElem_cons_zero, List.getElem_cons_succ, List.setIfInBounds_toArray, List.set_cons_zero, List.set_cons_succ]
      refine wpAnyH_take (i := 5) (v := (.int .i64 (ln : Int))) rfl (by as_aux_lemma => kernel_rfl) (by as_aux_lemma => kernel_rfl) (by as_aux_lemma => kernel_rfl) (fun _ _ _ h => h) (Or.inl ⟨by kernel_rfl, ?_⟩) hS ?_
      · intro w hSw; (try dsimp only at hSw); go_simp
      simp only [Act.put, List.getElem_toArray, List.getElem_cons_zero, List.getElem_cons_succ, List.setIfInBounds_toArray, List.set_cons_zero, List.set_cons_succ]
      refine wpAnyH_take (i := 7) (v := (.slice (some ⟨b1, o1, none⟩) n ca)) rfl (by as_aux_lemma => kernel_rfl) (by as_aux_lemma => kernel_rfl) (by as_aux_lemma => kernel_rfl) (fun _ _ _ h => h) (Or.inl ⟨by kernel_rfl, ?_⟩) hS ?_
      · intro w hSw; (try dsimp only at hSw); go_simp
      simp only [Act.put, List.getElem_toArray, List.getElem_cons_zero, List.getElem_cons_succ, List.setIfInBounds_toArray, List.set_cons_zero, List.set_cons_succ]
      refine wpAnyH_take (i := 8) (v := (.pointer (some ⟨b1, o1 + p * 5, none⟩))) rfl (by as_aux_lemma => kernel_rfl) (by as_aux_lemma => kernel_rfl) (by as_aux_lemma => kernel_rfl) (fun _ _ _ h => h) (Or.inl ⟨by kernel_rfl, ?_⟩) hS ?_
      · intro w hSw; (try dsimp only at hSw); go_simp
      simp only [Act.put, List.getElem_toArray, List.getElem_cons_zero, List.getElem_cons_succ, List.setIfInBounds_toArray, List.set_cons_zero, List.set_cons_succ]
      refine wpAnyH_take (i := 9) (v := (.pointer (some ⟨b1, o1 + p * 5, none⟩))) rfl (by as_aux_lemma => kernel_rfl) (by as_aux_lemma => kernel_rfl) (by as_aux_lemma => kernel_rfl) (fun _ _ _ h => h) (Or.inl ⟨by kernel_rfl, ?_⟩) hS ?_
      · intro w hSw; (try dsimp only at hSw); go_simp
      simp only [Act.put, List.getElem_toArray, List.getElem_cons_zero, List.getElem_cons_succ, List.setIfInBounds_toArray, List.set_cons_zero, List.set_cons_succ]
      refine wpAnyH_take (i := 10) (v := (.pointer (some ⟨b1, o1 + p * 5 + 4, none⟩))) rfl (by as_aux_lemma => kernel_rfl) (by as_aux_lemma => kernel_rfl) (by as_aux_lemma => kernel_rfl) (fun _ _ _ h => h) (Or.inl ⟨by kernel_rfl, ?_⟩) hS ?_
      · intro w hSw; (try dsimp only at hSw); go_simp
      simp only [Act.put, List.getElem_toArray, List.getElem_cons_zero, List.getElem_cons_succ, List.setIfInBounds_toArray, List.set_cons_zero, List.set_cons_succ]
      refine wpAnyH_take (i := 11) (v := (.int .i64 (rn : Int))) rfl (by as_aux_lemma => kernel_rfl) (by as_aux_lemma => kernel_rfl) (by as_aux_lemma => kernel_rfl) (fun _ _ _ h => h) (Or.inl ⟨by kernel_rfl, ?_⟩) hS ?_
      · intro w hSw; (try dsimp only at hSw); go_simp
      simp only [Act.put, List.getElem_toArray, List.getElem_cons_zero, List.getElem_cons_succ, List.setIfInBounds_toArray, List.set_cons_zero, List.set_cons_succ]
      refine wpAnyH_ready (rs := [6]) (by as_aux_lemma => kernel_rfl) (by simp) ?_
      refine AllReadyH.cons rfl (fun K hK => ?_) AllReadyH.nil
      go_simp
      refine (HA.out _ (ho.below (Below.refl _ _).drew) hbw.drew).mono ?_
      rintro r5 w5 ⟨v5, rfl, ho5, hb5⟩
      obtain ⟨va5, vc5, rfl, -, -, -⟩ := ho5.rd inE_len
      refine hK.out _ _ ⟨cell_later hb5 e3, cell_later hb5 e4⟩ (fun hS5 => ?_)
      clear hK K hS
      have hS := hS5
      clear hS5
      rw [HM.out] at ho5
      (try rw [HM.out])
      (try simp only [Act.put, List.getElem_toArray, List.getElem_cons_zero, List.getElem_cons_succ, List.setIfInBounds_toArray, List.set_cons_zero, List.set_cons_succ])
      refine wpAnyH_ready (rs := [12]) (by as_aux_lemma => kernel_rfl) (by simp) ?_
      refine AllReadyH.cons rfl (fun K hK => ?_) AllReadyH.nil
      go_simp
      refine (HB.out _ _ ho5 hb5).mono ?_
      rintro r6 w6 ⟨v6, rfl, ho6, hb6⟩
      refine hK.out _ _ ⟨cell_later hb6 e3, cell_later hb6 e4⟩ (fun hS6 => ?_)
      clear hK K hS
      have hS := hS6
      clear hS6
      (try simp only [Act.put, List.getElem_toArray, List.getElem_cons_zero, List.getElem_cons_succ, List.setIfInBounds_toArray, List.set_cons_zero, List.set_cons_succ])
      refine wpAnyH_take (i := 13) (v := (v6)) rfl (by as_aux_lemma => kernel_rfl) (by as_aux_lemma => kernel_rfl) (by as_aux_lemma => kernel_rfl) (fun _ _ _ h => h) (Or.inl ⟨by kernel_rfl, ?_⟩) hS ?_
      · intro w hSw; (try dsimp only at hSw); go_simp
      simp only [Act.put, List.getElem_toArray, List.getElem_cons_zero, List.getElem_cons_succ, List.setIfInBounds_toArray, List.set_cons_zero, List.set_cons_succ]
      refine wpAnyH_done (by kernel_rfl) ?_ _
      clear hS
      go_wp2
      go_ret
      exact ⟨v6, rfl, ho6, hb6⟩
    have hk11 : (k == 11) = false := by simpa using hk
    have hm11 : k ≠ 11 := hk
    clear hk
    by_cases hk : k = 8
    case pos =>
      obtain ⟨hp1, hl, hbl⟩ := hon (by omega)
      obtain ⟨ln, rfl⟩ : ∃ q : Nat, l = (q : Int) := ⟨l.toNat, by omega⟩
      have hln : ln = p - 1 := by omega
      rw [Int.toNat_natCast] at hbl
      subst hk
      rw [cod_8 HX.out rfl]
      simp only [Int.toNat_natCast]
      have hc1 := cl (N + 1) ln (by omega) (by omega)
      have hM1 : (out ++ [nI 2 ((N : Int) + 1) 0]).length = N + 1 := by rw [List.length_append, ← HN.out]; rfl
      have ihA := fun v' w' h1 h2 => ih ln v' (out ++ [nI 2 ((N : Int) + 1) 0]) w' (by omega) (by omega) h1 h2 (by rw [hM1]; omega)
      rw [hM1] at ihA
      obtain ⟨C1, hC1⟩ : ∃ C, C = cod ns f (N + 1) ln := ⟨_, rfl⟩
      rw [← hC1] at ihA hc1 ⊢
      obtain ⟨J, hJ⟩ : ∃ J, J = N + 1 + C1.length := ⟨_, rfl⟩
      have hM2 : (out ++ [nI 2 ((N : Int) + 1) 0] ++ C1).length = J := by rw [List.length_append, hM1, hJ]
      rw [hM2] at ihA
      have HA : Hid _ := ihA
      have HJ : Hid _ := hJ
      have HM2 : Hid _ := hM2
      obtain ⟨R, hR⟩ : ∃ R, out ++ (nI 2 ((N : Int) + 1) (N + 1 + C1.length + 1 : Nat) :: (C1 ++ [nI 3 N 0])) = R := ⟨_, rfl⟩
      rw [hR]
      have HRR : Hid _ := hR
      have hJ9 : J ≤ 2000 := by omega
      have hNJ : N < J := by omega
      clear ihA ih cl hc1 hC1 hJ hM1 hM2 hlf hon htw hl hbl hK hbd hp1 hln hR
      go_enter Try.func230, Try.ntmps230
      go_wp2
      refine wp_region_held_drew (S := fun w' => w'.cell? ⟨b1, o1 + p * 5 + 3, none⟩ = some (.int .i64 (ln : Int)) ∧ w'.cell? ⟨b1, o1 + p * 5 + 4, none⟩ = some (.int .i64 r)) (by kernel_rfl) (by exact ⟨cell_later hbw.drew e3, cell_later hbw.drew e4⟩) (fun hS => ?_)
      refine wpAnyH_take (i := 0) (v := (.slice va N vc)) rfl (by as_aux_lemma => kernel_rfl) (by as_aux_lemma => kernel_rfl) (by as_aux_lemma => kernel_rfl) (fun _ _ _ h => h) (Or.inl ⟨by kernel_rfl, ?_⟩) hS ?_
      · intro w hSw; (try dsimp only at hSw); go_simp
      simp only [Act.put, List.getElem_toArray, List.getElem_cons_zero, List.getElem_cons_succ, List.setIfInBounds_toArray, List.set_cons_zero, List.set_cons_succ]
      refine wpAnyH_take (i := 1) (v := (.int .i64 ((N : Int) + 1))) rfl (by as_aux_lemma => kernel_rfl) (by as_aux_lemma => kernel_rfl) (by as_aux_lemma => kernel_rfl) (fun _ _ _ h => h) (Or.inl ⟨by kernel_rfl, ?_⟩) hS ?_
      · intro w hSw; (try dsimp only at hSw); go_simp
      simp only [Act.put, List.getElem_toArray, List.getElem_cons_zero, List.getElem_cons_succ, List.setIfInBounds_toArray, List.set_cons_zero, List.set_cons_succ]
      refine wpAnyH_take (i := 2) (v := (.agg #[.int .i64 2, .int .i64 0, .int .i64 0, .string ⟨#[]⟩, .int .i64 0, .int .i64 0, .int .i64 ((N : Int) + 1), .int .i64 0])) rfl (by as_aux_lemma => kernel_rfl) (by as_aux_lemma => kernel_rfl) (by as_aux_lemma => kernel_rfl) (fun _ _ _ h => h) (Or.inl ⟨by kernel_rfl, ?_⟩) hS ?_
      · intro w hSw; (try dsimp only at hSw); go_simp
      simp only [Act.put, List.getElem_toArray, List.getElem_cons_zero, List.getElem_cons_succ, List.setIfInBounds_toArray, List.set_cons_zero, List.set_cons_succ]
      refine wpAnyH_take (i := 5) (v := (.slice (some ⟨b1, o1, none⟩) n ca)) rfl (by as_aux_lemma => kernel_rfl) (by as_aux_lemma => kernel_rfl) (by as_aux_lemma => kernel_rfl) (fun _ _ _ h => h) (Or.inl ⟨by kernel_rfl, ?_⟩) hS ?_
      · intro w hSw; (try dsimp only at hSw); go_simp
      simp only [Act.put, List.getElem_toArray, List.getElem_cons_zero, List.getElem_cons_succ, List.setIfInBounds_toArray, List.set_cons_zero, List.set_cons_succ]
      refine wpAnyH_take (i := 6) (v := (.pointer (some ⟨b1, o1 + p * 5, none⟩))) rfl (by as_aux_lemma => kernel_rfl) (by as_aux_lemma => kernel_rfl) (by as_aux_lemma => kernel_rfl) (fun _ _ _ h => h) (Or.inl ⟨by kernel_rfl, ?_⟩) hS ?_
      · intro w hSw; (try dsimp only at hSw); go_simp
      simp only [Act.put, List.getElem_toArray, List.getElem_cons_zero, List.getElem_cons_succ, List.setIfInBounds_toArray, List.set_cons_zero, List.set_cons_succ]
      refine wpAnyH_take (i := 7) (v := (.pointer (some ⟨b1, o1 + p * 5, none⟩))) rfl (by as_aux_lemma => kernel_rfl) (by as_aux_lemma => kernel_rfl) (by as_aux_lemma => kernel_rfl) (fun _ _ _ h => h) (Or.inl ⟨by kernel_rfl, ?_⟩) hS ?_
      · intro w hSw; (try dsimp only at hSw); go_simp
      simp only [Act.put, List.getElem_toArray, List.getElem_cons_zero, List.getElem_cons_succ, List.setIfInBounds_toArray, List.set_cons_zero, List.set_cons_succ]
      refine wpAnyH_take (i := 8) (v := (.pointer (some ⟨b1, o1 + p * 5 + 3, none⟩))) rfl (by as_aux_lemma => kernel_rfl) (by as_aux_lemma => kernel_rfl) (by as_aux_lemma => kernel_rfl) (fun _ _ _ h => h) (Or.inl ⟨by kernel_rfl, ?_⟩) hS ?_
      · intro w hSw; (try dsimp only at hSw); go_simp
      simp only [Act.put, List.getElem_toArray, List.getElem_cons_zero, List.getElem_cons_succ, List.setIfInBounds_toArray, List.set_cons_zero, List.set_cons_succ]
      refine wpAnyH_take (i := 9) (v := (.int .i64 (ln : Int))) rfl (by as_aux_lemma => kernel_rfl) (by as_aux_lemma => kernel_rfl) (by as_aux_lemma => kernel_rfl) (fun _ _ _ h => h) (Or.inl ⟨by kernel_rfl, ?_⟩) hS ?_
      · intro w hSw; (try dsimp only at hSw); go_simp
      simp only [Act.put, List.getElem_toArray, List.getElem_cons_zero, List.getElem_cons_succ, List.setIfInBounds_toArray, List.set_cons_zero, List.set_cons_succ]
      refine wpAnyH_ready (rs := [3]) (by as_aux_lemma => kernel_rfl) (by simp) ?_
      refine AllReadyH.cons rfl (fun K hK => ?_) AllReadyH.nil
      go_simp
      refine hK.out _ _ ⟨cell_later ((hbw.drew).alloc hbw.drew.size _) e3, cell_later ((hbw.drew).alloc hbw.drew.size _) e4⟩ (fun hS4 => ?_)
      clear hK K hS
      have hS := hS4
      clear hS4
      (try simp only [Act.put, List.getElem_toArray, List.getElem_cons_zero, List.getElem_cons_succ, List.setIfInBounds_toArray, List.set_cons_zero, List.set_cons_succ])
      refine wpAnyH_ready (rs := [4]) (by as_aux_lemma => kernel_rfl) (by simp) ?_
      refine AllReadyH.cons rfl (fun K hK => ?_) AllReadyH.nil
      refine wp_appIn _ _ rfl w0.heap.size _ N out rfl (OwnR.alloc (ho.below (Below.refl _ _).drew) (.cells #[.int .i64 2, .int .i64 0, .int .i64 0, .string ⟨#[]⟩, .int .i64 0, .int .i64 0, .int .i64 ((N : Int) + 1), .int .i64 0] 252)) _ _ (nI 2 ((N : Int) + 1) 0) rfl (cellsI w.drew (nI 2 ((N : Int) + 1) 0) _) (show N ≤ 1000000 by omega) (by simp; omega) ?_
      intro v5 w5 ho5 hg5
      have hb5 := app_below (hbw.drew.alloc hbw.drew.size _) (OwnR.alloc (ho.below (Below.refl _ _).drew) _) hg5
      refine hK.out _ _ ⟨cell_later hb5 e3, cell_later hb5 e4⟩ (fun hS5 => ?_)
      clear hK K hS
      have hS := hS5
      clear hS5 hg5
      (try simp only [Act.put, List.getElem_toArray, List.getElem_cons_zero, List.getElem_cons_succ, List.setIfInBounds_toArray, List.set_cons_zero, List.set_cons_succ])
      refine wpAnyH_ready (rs := [10]) (by as_aux_lemma => kernel_rfl) (by simp) ?_
      refine AllReadyH.cons rfl (fun K hK => ?_) AllReadyH.nil
      go_simp
      refine (HA.out _ _ ho5 hb5).mono ?_
      rintro r6 w6 ⟨v6, rfl, ho6, hb6⟩
      refine hK.out _ _ ⟨cell_later hb6 e3, cell_later hb6 e4⟩ (fun hS6 => ?_)
      clear hK K hS
      have hS := hS6
      clear hS6
      (try simp only [Act.put, List.getElem_toArray, List.getElem_cons_zero, List.getElem_cons_succ, List.setIfInBounds_toArray, List.set_cons_zero, List.set_cons_succ])
      refine wpAnyH_take (i := 11) (v := (v6)) rfl (by as_aux_lemma => kernel_rfl) (by as_aux_lemma => kernel_rfl) (by as_aux_lemma => kernel_rfl) (fun _ _ _ h => h) (Or.inl ⟨by kernel_rfl, ?_⟩) hS ?_
      · intro w hSw; (try dsimp only at hSw); go_simp
      simp only [Act.put, List.getElem_toArray, List.getElem_cons_zero, List.getElem_cons_succ, List.setIfInBounds_toArray, List.set_cons_zero, List.set_cons_succ]
      refine wpAnyH_done (by kernel_rfl) ?_ _
      clear hS
      obtain ⟨va6, vc6, rfl, -, -, -⟩ := ho6.rd inE_len
      have e0' := cell_later hb6 e0
      go_wp2_with (at_builtin; refine wpList_appIn rfl _ _ rfl w0.heap.size _ _ _ rfl (ho6.alloc _) _ _ (nI 3 (N : Int) 0) rfl (cellsI _ (nI 3 (N : Int) 0) _) (by omega) (by have := hb6.size; simp; omega) ?_)
      intro v7 w7 ho7 hg7
      have hb7 := app_below (hb6.alloc hb6.size _) (ho6.alloc _) hg7
      obtain ⟨JJ, hJJ⟩ : ∃ q, J + 1 = q := ⟨_, rfl⟩
      rw [hJJ] at ho7
      have HJJ : Hid _ := hJJ
      obtain ⟨g, vcg, rfl⟩ := own_addr ho7 (by omega)
      have hpre : out ++ [nI 2 ((N : Int) + 1) 0] ++ C1 ++ [nI 3 (N : Int) 0] = out ++ nI 2 ((N : Int) + 1) 0 :: (C1 ++ [nI 3 (N : Int) 0]) := by simp
      (try rw [hpre] at ho7)
      have hat : (out ++ nI 2 ((N : Int) + 1) 0 :: (C1 ++ [nI 3 (N : Int) 0]))[N]? = some (nI 2 ((N : Int) + 1) 0) := by rw [List.getElem?_append_right (by rw [← HN.out]; exact Nat.le_refl _), ← HN.out, Nat.sub_self]; rfl
      have d7 := OwnR.cell (f := 7) inE_len ho7 hat rfl
      have f7 := ho7.frozen (N * 8 + 7)
      have hst := OwnR.store (f := 7) (u := .int .i64 (JJ : Int)) (y := nI 2 ((N : Int) + 1) JJ) inE_len ho7 hat (by omega) rfl
      rw [set_at HN.out.symm] at hst
      have HST : Hid _ := hst
      have hgl := (ho7.lt g rfl).1
      have HBF : Hid (Below w0.heap.size w0 (w7.setCell ⟨g, N * 8 + 7, none⟩ (.int .i64 (JJ : Int)))) := hb7.setCell hgl _
      have hNi : (N : Int) < (JJ : Int) := by omega
      have e0'' := cell_later hb7 e0
      clear hst hat hpre hg7 hJJ ho7
      go_wp2
      go_ret
      refine ⟨_, rfl, own_as HST.out.1 ?_, HBF.out⟩
      rw [← HRR.out, ← HJJ.out, HJ.out]
    have hk8 : (k == 8) = false := by simpa using hk
    have hm8 : k ≠ 8 := hk
    clear hk
    by_cases hk : k = 10
    case pos =>
      obtain ⟨hp1, hl, hbl⟩ := hon (by omega)
      obtain ⟨ln, rfl⟩ : ∃ q : Nat, l = (q : Int) := ⟨l.toNat, by omega⟩
      have hln : ln = p - 1 := by omega
      rw [Int.toNat_natCast] at hbl
      subst hk
      rw [cod_10 HX.out rfl]
      simp only [Int.toNat_natCast]
      have hc1 := cl (N + 1) ln (by omega) (by omega)
      have hM1 : (out ++ [nI 2 ((N : Int) + 1) 0]).length = N + 1 := by rw [List.length_append, ← HN.out]; rfl
      have ihA := fun v' w' h1 h2 => ih ln v' (out ++ [nI 2 ((N : Int) + 1) 0]) w' (by omega) (by omega) h1 h2 (by rw [hM1]; omega)
      rw [hM1] at ihA
      obtain ⟨C1, hC1⟩ : ∃ C, C = cod ns f (N + 1) ln := ⟨_, rfl⟩
      rw [← hC1] at ihA hc1 ⊢
      obtain ⟨J, hJ⟩ : ∃ J, J = N + 1 + C1.length := ⟨_, rfl⟩
      have hM2 : (out ++ [nI 2 ((N : Int) + 1) 0] ++ C1).length = J := by rw [List.length_append, hM1, hJ]
      rw [hM2] at ihA
      have HA : Hid _ := ihA
      have HJ : Hid _ := hJ
      have HM2 : Hid _ := hM2
      obtain ⟨R, hR⟩ : ∃ R, out ++ (nI 2 ((N : Int) + 1) (N + 1 + C1.length : Nat) :: C1) = R := ⟨_, rfl⟩
      rw [hR]
      have HRR : Hid _ := hR
      have hJ9 : J ≤ 2000 := by omega
      have hNJ : N < J := by omega
      clear ihA ih cl hc1 hC1 hJ hM1 hM2 hlf hon htw hl hbl hK hbd hp1 hln hR
      go_enter Try.func230, Try.ntmps230
      go_wp2
      refine wp_region_held_drew (S := fun w' => w'.cell? ⟨b1, o1 + p * 5 + 3, none⟩ = some (.int .i64 (ln : Int)) ∧ w'.cell? ⟨b1, o1 + p * 5 + 4, none⟩ = some (.int .i64 r)) (by kernel_rfl) (by exact ⟨cell_later hbw.drew e3, cell_later hbw.drew e4⟩) (fun hS => ?_)
      refine wpAnyH_take (i := 0) (v := (.slice va N vc)) rfl (by as_aux_lemma => kernel_rfl) (by as_aux_lemma => kernel_rfl) (by as_aux_lemma => kernel_rfl) (fun _ _ _ h => h) (Or.inl ⟨by kernel_rfl, ?_⟩) hS ?_
      · intro w hSw; (try dsimp only at hSw); go_simp
      simp only [Act.put, List.getElem_toArray, List.getElem_cons_zero, List.getElem_cons_succ, List.setIfInBounds_toArray, List.set_cons_zero, List.set_cons_succ]
      refine wpAnyH_take (i := 1) (v := (.int .i64 ((N : Int) + 1))) rfl (by as_aux_lemma => kernel_rfl) (by as_aux_lemma => kernel_rfl) (by as_aux_lemma => kernel_rfl) (fun _ _ _ h => h) (Or.inl ⟨by kernel_rfl, ?_⟩) hS ?_
      · intro w hSw; (try dsimp only at hSw); go_simp
      simp only [Act.put, List.getElem_toArray, List.getElem_cons_zero, List.getElem_cons_succ, List.setIfInBounds_toArray, List.set_cons_zero, List.set_cons_succ]
      refine wpAnyH_take (i := 2) (v := (.agg #[.int .i64 2, .int .i64 0, .int .i64 0, .string ⟨#[]⟩, .int .i64 0, .int .i64 0, .int .i64 ((N : Int) + 1), .int .i64 0])) rfl (by as_aux_lemma => kernel_rfl) (by as_aux_lemma => kernel_rfl) (by as_aux_lemma => kernel_rfl) (fun _ _ _ h => h) (Or.inl ⟨by kernel_rfl, ?_⟩) hS ?_
      · intro w hSw; (try dsimp only at hSw); go_simp
      simp only [Act.put, List.getElem_toArray, List.getElem_cons_zero, List.getElem_cons_succ, List.setIfInBounds_toArray, List.set_cons_zero, List.set_cons_succ]
      refine wpAnyH_take (i := 5) (v := (.slice (some ⟨b1, o1, none⟩) n ca)) rfl (by as_aux_lemma => kernel_rfl) (by as_aux_lemma => kernel_rfl) (by as_aux_lemma => kernel_rfl) (fun _ _ _ h => h) (Or.inl ⟨by kernel_rfl, ?_⟩) hS ?_
      · intro w hSw; (try dsimp only at hSw); go_simp
      simp only [Act.put, List.getElem_toArray, List.getElem_cons_zero, List.getElem_cons_succ, List.setIfInBounds_toArray, List.set_cons_zero, List.set_cons_succ]
      refine wpAnyH_take (i := 6) (v := (.pointer (some ⟨b1, o1 + p * 5, none⟩))) rfl (by as_aux_lemma => kernel_rfl) (by as_aux_lemma => kernel_rfl) (by as_aux_lemma => kernel_rfl) (fun _ _ _ h => h) (Or.inl ⟨by kernel_rfl, ?_⟩) hS ?_
      · intro w hSw; (try dsimp only at hSw); go_simp
      simp only [Act.put, List.getElem_toArray, List.getElem_cons_zero, List.getElem_cons_succ, List.setIfInBounds_toArray, List.set_cons_zero, List.set_cons_succ]
      refine wpAnyH_take (i := 7) (v := (.pointer (some ⟨b1, o1 + p * 5, none⟩))) rfl (by as_aux_lemma => kernel_rfl) (by as_aux_lemma => kernel_rfl) (by as_aux_lemma => kernel_rfl) (fun _ _ _ h => h) (Or.inl ⟨by kernel_rfl, ?_⟩) hS ?_
      · intro w hSw; (try dsimp only at hSw); go_simp
      simp only [Act.put, List.getElem_toArray, List.getElem_cons_zero, List.getElem_cons_succ, List.setIfInBounds_toArray, List.set_cons_zero, List.set_cons_succ]
      refine wpAnyH_take (i := 8) (v := (.pointer (some ⟨b1, o1 + p * 5 + 3, none⟩))) rfl (by as_aux_lemma => kernel_rfl) (by as_aux_lemma => kernel_rfl) (by as_aux_lemma => kernel_rfl) (fun _ _ _ h => h) (Or.inl ⟨by kernel_rfl, ?_⟩) hS ?_
      · intro w hSw; (try dsimp only at hSw); go_simp
      simp only [Act.put, List.getElem_toArray, List.getElem_cons_zero, List.getElem_cons_succ, List.setIfInBounds_toArray, List.set_cons_zero, List.set_cons_succ]
      refine wpAnyH_take (i := 9) (v := (.int .i64 (ln : Int))) rfl (by as_aux_lemma => kernel_rfl) (by as_aux_lemma => kernel_rfl) (by as_aux_lemma => kernel_rfl) (fun _ _ _ h => h) (Or.inl ⟨by kernel_rfl, ?_⟩) hS ?_
      · intro w hSw; (try dsimp only at hSw); go_simp
      simp only [Act.put, List.getElem_toArray, List.getElem_cons_zero, List.getElem_cons_succ, List.setIfInBounds_toArray, List.set_cons_zero, List.set_cons_succ]
      refine wpAnyH_ready (rs := [3]) (by as_aux_lemma => kernel_rfl) (by simp) ?_
      refine AllReadyH.cons rfl (fun K hK => ?_) AllReadyH.nil
      go_simp
      refine hK.out _ _ ⟨cell_later ((hbw.drew).alloc hbw.drew.size _) e3, cell_later ((hbw.drew).alloc hbw.drew.size _) e4⟩ (fun hS4 => ?_)
      clear hK K hS
      have hS := hS4
      clear hS4
      (try simp only [Act.put, List.getElem_toArray, List.getElem_cons_zero, List.getElem_cons_succ, List.setIfInBounds_toArray, List.set_cons_zero, List.set_cons_succ])
      refine wpAnyH_ready (rs := [4]) (by as_aux_lemma => kernel_rfl) (by simp) ?_
      refine AllReadyH.cons rfl (fun K hK => ?_) AllReadyH.nil
      refine wp_appIn _ _ rfl w0.heap.size _ N out rfl (OwnR.alloc (ho.below (Below.refl _ _).drew) (.cells #[.int .i64 2, .int .i64 0, .int .i64 0, .string ⟨#[]⟩, .int .i64 0, .int .i64 0, .int .i64 ((N : Int) + 1), .int .i64 0] 252)) _ _ (nI 2 ((N : Int) + 1) 0) rfl (cellsI w.drew (nI 2 ((N : Int) + 1) 0) _) (show N ≤ 1000000 by omega) (by simp; omega) ?_
      intro v5 w5 ho5 hg5
      have hb5 := app_below (hbw.drew.alloc hbw.drew.size _) (OwnR.alloc (ho.below (Below.refl _ _).drew) _) hg5
      refine hK.out _ _ ⟨cell_later hb5 e3, cell_later hb5 e4⟩ (fun hS5 => ?_)
      clear hK K hS
      have hS := hS5
      clear hS5 hg5
      (try simp only [Act.put, List.getElem_toArray, List.getElem_cons_zero, List.getElem_cons_succ, List.setIfInBounds_toArray, List.set_cons_zero, List.set_cons_succ])
      refine wpAnyH_ready (rs := [10]) (by as_aux_lemma => kernel_rfl) (by simp) ?_
      refine AllReadyH.cons rfl (fun K hK => ?_) AllReadyH.nil
      go_simp
      refine (HA.out _ _ ho5 hb5).mono ?_
      rintro r6 w6 ⟨v6, rfl, ho6, hb6⟩
      refine hK.out _ _ ⟨cell_later hb6 e3, cell_later hb6 e4⟩ (fun hS6 => ?_)
      clear hK K hS
      have hS := hS6
      clear hS6
      (try simp only [Act.put, List.getElem_toArray, List.getElem_cons_zero, List.getElem_cons_succ, List.setIfInBounds_toArray, List.set_cons_zero, List.set_cons_succ])
      refine wpAnyH_take (i := 11) (v := (v6)) rfl (by as_aux_lemma => kernel_rfl) (by as_aux_lemma => kernel_rfl) (by as_aux_lemma => kernel_rfl) (fun _ _ _ h => h) (Or.inl ⟨by kernel_rfl, ?_⟩) hS ?_
      · intro w hSw; (try dsimp only at hSw); go_simp
      simp only [Act.put, List.getElem_toArray, List.getElem_cons_zero, List.getElem_cons_succ, List.setIfInBounds_toArray, List.set_cons_zero, List.set_cons_succ]
      refine wpAnyH_done (by kernel_rfl) ?_ _
      clear hS
      obtain ⟨g, vcg, rfl⟩ := own_addr ho6 (by omega)
      have hpre : out ++ [nI 2 ((N : Int) + 1) 0] ++ C1 = out ++ nI 2 ((N : Int) + 1) 0 :: (C1) := by simp
      (try rw [hpre] at ho6)
      have hat : (out ++ nI 2 ((N : Int) + 1) 0 :: (C1))[N]? = some (nI 2 ((N : Int) + 1) 0) := by rw [List.getElem?_append_right (by rw [← HN.out]; exact Nat.le_refl _), ← HN.out, Nat.sub_self]; rfl
      have d7 := OwnR.cell (f := 7) inE_len ho6 hat rfl
      have f7 := ho6.frozen (N * 8 + 7)
      have hst := OwnR.store (f := 7) (u := .int .i64 (J : Int)) (y := nI 2 ((N : Int) + 1) J) inE_len ho6 hat (by omega) rfl
      rw [set_at HN.out.symm] at hst
      have HST : Hid _ := hst
      have hgl := (ho6.lt g rfl).1
      have HBF : Hid (Below w0.heap.size w0 (w6.setCell ⟨g, N * 8 + 7, none⟩ (.int .i64 (J : Int)))) := hb6.setCell hgl _
      have hNi : (N : Int) < (J : Int) := by omega
      have e0'' := cell_later hb6 e0
      clear hst hat hpre ho6
      go_wp2
      go_ret
      refine ⟨_, rfl, own_as HST.out.1 ?_, HBF.out⟩
      rw [← HRR.out, HJ.out]
    have hk10 : (k == 10) = false := by simpa using hk
    have hm10 : k ≠ 10 := hk
    clear hk
    by_cases hk : k = 9
    case pos =>
      obtain ⟨hp1, hl, hbl⟩ := hon (by omega)
      obtain ⟨ln, rfl⟩ : ∃ q : Nat, l = (q : Int) := ⟨l.toNat, by omega⟩
      have hln : ln = p - 1 := by omega
      rw [Int.toNat_natCast] at hbl
      subst hk
      rw [cod_9 HX.out rfl]
      simp only [Int.toNat_natCast]
      have hc1 := cl N ln (by omega) (by omega)
      have ihA := fun w' h1 h2 => ih ln (.slice va N vc) out w' (by omega) (by omega) h1 h2 (by rw [← HN.out]; omega)
      rw [← HN.out] at ihA
      obtain ⟨C1, hC1⟩ : ∃ C, C = cod ns f N ln := ⟨_, rfl⟩
      rw [← hC1] at ihA hc1 ⊢
      obtain ⟨J, hJ⟩ : ∃ J, J = N + C1.length := ⟨_, rfl⟩
      have hM2 : (out ++ C1).length = J := by rw [List.length_append, ← HN.out, hJ]
      rw [hM2] at ihA
      rw [← hJ]
      have HA : Hid _ := ihA
      obtain ⟨R, hR⟩ : ∃ R, out ++ (C1 ++ [nI 2 (N : Int) ((J : Int) + 1)]) = R := ⟨_, rfl⟩
      rw [hR]
      have HRR : Hid _ := hR
      have hJ9 : J ≤ 2000 := by omega
      clear ihA ih cl hc1 hC1 hJ hM2 hlf hon htw hl hbl hK hbd hp1 hln hR
      go_enter Try.func230, Try.ntmps230
      go_wp2_with fail
      refine (HA.out _ ho hbw).mono ?_
      rintro r6 w6 ⟨v6, rfl, ho6, hb6⟩
      obtain ⟨va6, vc6, rfl, -, -, -⟩ := ho6.rd inE_len
      go_wp2_with (at_builtin; refine wpList_appIn rfl _ _ rfl w0.heap.size _ _ _ rfl (ho6.alloc _) _ _ (nI 2 (N : Int) ((J : Int) + 1)) rfl (cellsI _ (nI 2 (N : Int) ((J : Int) + 1)) _) (by omega) (by have := hb6.size; simp; omega) ?_)
      intro v7 w7 ho7 hg7
      have hb7 := app_below (hb6.alloc hb6.size _) (ho6.alloc _) hg7
      have HO7 : Hid _ := ho7
      clear ho7 hg7
      go_wp2
      go_ret
      exact ⟨v7, rfl, own_as HO7.out (by first | exact HRR.out | (rw [← HRR.out]; first | rfl | simp [List.append_assoc])), hb7⟩
    have hk9 : (k == 9) = false := by simpa using hk
    have hm9 : k ≠ 9 := hk
    clear hk
    by_cases hk : k = 12
    case pos =>
      obtain ⟨hp1, hr, hb1', hl, hb2, hbl⟩ := htw (.inr hk)
      obtain ⟨ln, rfl⟩ : ∃ q : Nat, l = (q : Int) := ⟨l.toNat, by omega⟩
      obtain ⟨rn, rfl⟩ : ∃ q : Nat, r = (q : Int) := ⟨r.toNat, by omega⟩
      have hrn : rn = p - 1 := by omega
      rw [← hrn] at hl hb1' hb2
      rw [Int.toNat_natCast] at hbl
      subst hk
      rw [cod_12 HX.out rfl]
      simp only [Int.toNat_natCast]
      have hc1 := cl (N + 1) ln (by omega) (by omega)
      have hM1 : (out ++ [nI 2 ((N : Int) + 1) 0]).length = N + 1 := by rw [List.length_append, ← HN.out]; rfl
      have ihA := fun v' w' h1 h2 => ih ln v' (out ++ [nI 2 ((N : Int) + 1) 0]) w' (by omega) (by omega) h1 h2 (by rw [hM1]; omega)
      rw [hM1] at ihA
      obtain ⟨C1, hC1⟩ : ∃ C, C = cod ns f (N + 1) ln := ⟨_, rfl⟩
      rw [← hC1] at ihA hc1 ⊢
      obtain ⟨J, hJ⟩ : ∃ J, J = N + 1 + C1.length := ⟨_, rfl⟩
      have hM2 : (out ++ [nI 2 ((N : Int) + 1) 0] ++ C1).length = J := by rw [List.length_append, hM1, hJ]
      rw [hM2] at ihA
      have HA : Hid _ := ihA
      have HJ : Hid _ := hJ
      have HM2 : Hid _ := hM2
      rw [show N + 1 + C1.length + 1 = J + 1 by rw [hJ]]
      have hc2 := cl (J + 1) rn (by omega) (by omega)
      have hM4 : (out ++ nI 2 ((N : Int) + 1) ((J : Int) + 1) :: (C1 ++ [nI 3 0 0])).length = J + 1 := by simp only [List.length_append, List.length_cons, List.length_nil]; have := HN.out; omega
      have ihB := fun v' w' h1 h2 => ih rn v' (out ++ nI 2 ((N : Int) + 1) ((J : Int) + 1) :: (C1 ++ [nI 3 0 0])) w' (by omega) (by omega) h1 h2 (by rw [hM4]; omega)
      rw [hM4] at ihB
      obtain ⟨C2, hC2⟩ : ∃ C, C = cod ns f (J + 1) rn := ⟨_, rfl⟩
      rw [← hC2] at ihB hc2 ⊢
      obtain ⟨L, hL⟩ : ∃ L, L = J + 1 + C2.length := ⟨_, rfl⟩
      have hM5 : (out ++ nI 2 ((N : Int) + 1) ((J : Int) + 1) :: (C1 ++ [nI 3 0 0]) ++ C2).length = L := by rw [List.length_append, hM4, hL]
      rw [hM5] at ihB
      rw [← hL]
      obtain ⟨JJ, hJJ⟩ : ∃ q, J + 1 = q := ⟨_, rfl⟩
      rw [hJJ] at ihB
      have HB : Hid _ := ihB
      have HJJ : Hid _ := hJJ
      obtain ⟨R, hR⟩ : ∃ R, out ++ (nI 2 ((N : Int) + 1) (JJ : Int) :: (C1 ++ nI 3 (L : Int) 0 :: C2)) = R := ⟨_, rfl⟩
      rw [show ((J + 1 : Nat) : Int) = (JJ : Int) by rw [hJJ], hR]
      have HRR : Hid _ := hR
      have hJ9 : J ≤ 2000 := by omega
      have hNJ : N < J := by omega
      have hJJ1 : J < JJ := by omega
      have hJJL : JJ ≤ L := by omega
      have hL9 : L ≤ 4000 := by omega
      have hJJi : (J : Int) + 1 = (JJ : Int) := by omega
      clear ihA ih cl hc1 hC1 hJ hM1 hM2 hlf hon htw hl hbl hK hbd ihB hc2 hC2 hL hM4 hM5 hJJ hR hr hb1' hb2 hrn hp1 hJJi
      go_enter Try.func230, Try.ntmps230
      go_wp2
      refine wp_region_held_drew (S := fun w' => w'.cell? ⟨b1, o1 + p * 5 + 3, none⟩ = some (.int .i64 (ln : Int)) ∧ w'.cell? ⟨b1, o1 + p * 5 + 4, none⟩ = some (.int .i64 (rn : Int))) (by kernel_rfl) (by exact ⟨cell_later hbw.drew e3, cell_later hbw.drew e4⟩) (fun hS => ?_)
      refine wpAnyH_take (i := 0) (v := (.slice va N vc)) rfl (by as_aux_lemma => kernel_rfl) (by as_aux_lemma => kernel_rfl) (by as_aux_lemma => kernel_rfl) (fun _ _ _ h => h) (Or.inl ⟨by kernel_rfl, ?_⟩) hS ?_
      · intro w hSw; (try dsimp only at hSw); go_simp
      simp only [Act.put, List.getElem_toArray, List.getElem_cons_zero, List.getElem_cons_succ, List.setIfInBounds_toArray, List.set_cons_zero, List.set_cons_succ]
      refine wpAnyH_take (i := 1) (v := (.int .i64 ((N : Int) + 1))) rfl (by as_aux_lemma => kernel_rfl) (by as_aux_lemma => kernel_rfl) (by as_aux_lemma => kernel_rfl) (fun _ _ _ h => h) (Or.inl ⟨by kernel_rfl, ?_⟩) hS ?_
      · intro w hSw; (try dsimp only at hSw); go_simp
      simp only [Act.put, List.getElem_toArray, List.getElem_cons_zero, List.getElem_cons_succ, List.setIfInBounds_toArray, List.set_cons_zero, List.set_cons_succ]
      refine wpAnyH_take (i := 2) (v := (.agg #[.int .i64 2, .int .i64 0, .int .i64 0, .string ⟨#[]⟩, .int .i64 0, .int .i64 0, .int .i64 ((N : Int) + 1), .int .i64 0])) rfl (by as_aux_lemma => kernel_rfl) (by as_aux_lemma => kernel_rfl) (by as_aux_lemma => kernel_rfl) (fun _ _ _ h => h) (Or.inl ⟨by kernel_rfl, ?_⟩) hS ?_
      · intro w hSw; (try dsimp only at hSw); go_simp
      simp only [Act.put, List.getElem_toArray, List.getElem_cons_zero, List.getElem_cons_succ, List.setIfInBounds_toArray, List.set_cons_zero, List.set_cons_succ]
      refine wpAnyH_take (i := 5) (v := (.slice (some ⟨b1, o1, none⟩) n ca)) rfl (by as_aux_lemma => kernel_rfl) (by as_aux_lemma => kernel_rfl) (by as_aux_lemma => kernel_rfl) (fun _ _ _ h => h) (Or.inl ⟨by kernel_rfl, ?_⟩) hS ?_
      · intro w hSw; (try dsimp only at hSw); go_simp
      simp only [Act.put, List.getElem_toArray, List.getElem_cons_zero, List.getElem_cons_succ, List.setIfInBounds_toArray, List.set_cons_zero, List.set_cons_succ]
      refine wpAnyH_take (i := 6) (v := (.pointer (some ⟨b1, o1 + p * 5, none⟩))) rfl (by as_aux_lemma => kernel_rfl) (by as_aux_lemma => kernel_rfl) (by as_aux_lemma => kernel_rfl) (fun _ _ _ h => h) (Or.inl ⟨by kernel_rfl, ?_⟩) hS ?_
      · intro w hSw; (try dsimp only at hSw); go_simp
      simp only [Act.put, List.getElem_toArray, List.getElem_cons_zero, List.getElem_cons_succ, List.setIfInBounds_toArray, List.set_cons_zero, List.set_cons_succ]
      refine wpAnyH_take (i := 7) (v := (.pointer (some ⟨b1, o1 + p * 5, none⟩))) rfl (by as_aux_lemma => kernel_rfl) (by as_aux_lemma => kernel_rfl) (by as_aux_lemma => kernel_rfl) (fun _ _ _ h => h) (Or.inl ⟨by kernel_rfl, ?_⟩) hS ?_
      · intro w hSw; (try dsimp only at hSw); go_simp
      simp only [Act.put, List.getElem_toArray, List.getElem_cons_zero, List.getElem_cons_succ, List.setIfInBounds_toArray, List.set_cons_zero, List.set_cons_succ]
      refine wpAnyH_take (i := 8) (v := (.pointer (some ⟨b1, o1 + p * 5 + 3, none⟩))) rfl (by as_aux_lemma => kernel_rfl) (by as_aux_lemma => kernel_rfl) (by as_aux_lemma => kernel_rfl) (fun _ _ _ h => h) (Or.inl ⟨by kernel_rfl, ?_⟩) hS ?_
      · intro w hSw; (try dsimp only at hSw); go_simp
      simp only [Act.put, List.getElem_toArray, List.getElem_cons_zero, List.getElem_cons_succ, List.setIfInBounds_toArray, List.set_cons_zero, List.set_cons_succ]
      refine wpAnyH_take (i := 9) (v := (.int .i64 (ln : Int))) rfl (by as_aux_lemma => kernel_rfl) (by as_aux_lemma => kernel_rfl) (by as_aux_lemma => kernel_rfl) (fun _ _ _ h => h) (Or.inl ⟨by kernel_rfl, ?_⟩) hS ?_
      · intro w hSw; (try dsimp only at hSw); go_simp
      simp only [Act.put, List.getElem_toArray, List.getElem_cons_zero, List.getElem_cons_succ, List.setIfInBounds_toArray, List.set_cons_zero, List.set_cons_succ]
      refine wpAnyH_ready (rs := [3]) (by as_aux_lemma => kernel_rfl) (by simp) ?_
      refine AllReadyH.cons rfl (fun K hK => ?_) AllReadyH.nil
      go_simp
      refine hK.out _ _ ⟨cell_later ((hbw.drew).alloc hbw.drew.size _) e3, cell_later ((hbw.drew).alloc hbw.drew.size _) e4⟩ (fun hS4 => ?_)
      clear hK K hS
      have hS := hS4
      clear hS4
      (try simp only [Act.put, List.getElem_toArray, List.getElem_cons_zero, List.getElem_cons_succ, List.setIfInBounds_toArray, List.set_cons_zero, List.set_cons_succ])
      refine wpAnyH_ready (rs := [4]) (by as_aux_lemma => kernel_rfl) (by simp) ?_
      refine AllReadyH.cons rfl (fun K hK => ?_) AllReadyH.nil
      refine wp_appIn _ _ rfl w0.heap.size _ N out rfl (OwnR.alloc (ho.below (Below.refl _ _).drew) (.cells #[.int .i64 2, .int .i64 0, .int .i64 0, .string ⟨#[]⟩, .int .i64 0, .int .i64 0, .int .i64 ((N : Int) + 1), .int .i64 0] 252)) _ _ (nI 2 ((N : Int) + 1) 0) rfl (cellsI w.drew (nI 2 ((N : Int) + 1) 0) _) (show N ≤ 1000000 by omega) (by simp; omega) ?_
      intro v5 w5 ho5 hg5
      have hb5 := app_below (hbw.drew.alloc hbw.drew.size _) (OwnR.alloc (ho.below (Below.refl _ _).drew) _) hg5
      refine hK.out _ _ ⟨cell_later hb5 e3, cell_later hb5 e4⟩ (fun hS5 => ?_)
      clear hK K hS
      have hS := hS5
      clear hS5 hg5
      (try simp only [Act.put, List.getElem_toArray, List.getElem_cons_zero, List.getElem_cons_succ, List.setIfInBounds_toArray, List.set_cons_zero, List.set_cons_succ])
      refine wpAnyH_ready (rs := [10]) (by as_aux_lemma => kernel_rfl) (by simp) ?_
      refine AllReadyH.cons rfl (fun K hK => ?_) AllReadyH.nil
      go_simp
      refine (HA.out _ _ ho5 hb5).mono ?_
      rintro r6 w6 ⟨v6, rfl, ho6, hb6⟩
      refine hK.out _ _ ⟨cell_later hb6 e3, cell_later hb6 e4⟩ (fun hS6 => ?_)
      clear hK K hS
      have hS := hS6
      clear hS6
      (try simp only [Act.put, List.getElem_toArray, List.getElem_cons_zero, List.getElem_cons_succ, List.setIfInBounds_toArray, List.set_cons_zero, List.set_cons_succ])
      refine wpAnyH_take (i := 11) (v := (v6)) rfl (by as_aux_lemma => kernel_rfl) (by as_aux_lemma => kernel_rfl) (by as_aux_lemma => kernel_rfl) (fun _ _ _ h => h) (Or.inl ⟨by kernel_rfl, ?_⟩) hS ?_
      · intro w hSw; (try dsimp only at hSw); go_simp
      simp only [Act.put, List.getElem_toArray, List.getElem_cons_zero, List.getElem_cons_succ, List.setIfInBounds_toArray, List.set_cons_zero, List.set_cons_succ]
      refine wpAnyH_done (by kernel_rfl) ?_ _
      clear hS
      obtain ⟨va6, vc6, rfl, -, -, -⟩ := ho6.rd inE_len
      go_wp2_with (at_builtin; refine wpList_appIn rfl _ _ rfl w0.heap.size _ _ _ rfl (ho6.alloc _) _ _ (nI 3 0 0) rfl (cellsI _ (nI 3 0 0) _) (by omega) (by have := hb6.size; simp; omega) ?_)
      intro v7 w7 ho7 hg7
      have hb7 := app_below (hb6.alloc hb6.size _) (ho6.alloc _) hg7
      rw [HJJ.out] at ho7
      obtain ⟨g, vcg, rfl⟩ := own_addr ho7 (by omega)
      have hpre : out ++ [nI 2 ((N : Int) + 1) 0] ++ C1 ++ [nI 3 0 0] = out ++ nI 2 ((N : Int) + 1) 0 :: (C1 ++ [nI 3 0 0]) := by simp
      (try rw [hpre] at ho7)
      have hat : (out ++ nI 2 ((N : Int) + 1) 0 :: (C1 ++ [nI 3 0 0]))[N]? = some (nI 2 ((N : Int) + 1) 0) := by rw [List.getElem?_append_right (by rw [← HN.out]; exact Nat.le_refl _), ← HN.out, Nat.sub_self]; rfl
      have d7 := OwnR.cell (f := 7) inE_len ho7 hat rfl
      have f7 := ho7.frozen (N * 8 + 7)
      have hst := OwnR.store (f := 7) (u := .int .i64 (JJ : Int)) (y := nI 2 ((N : Int) + 1) JJ) inE_len ho7 hat (by omega) rfl
      rw [set_at HN.out.symm] at hst
      have HST : Hid _ := hst
      have hgl := (ho7.lt g rfl).1
      have HBF : Hid (Below w0.heap.size w0 (w7.setCell ⟨g, N * 8 + 7, none⟩ (.int .i64 (JJ : Int)))) := hb7.setCell hgl _
      have hNi : (N : Int) < (JJ : Int) := by omega
      have e4' := cell_later HBF.out e4
      have HBX := HB.out
      have hJJc : ((J : Int) + 1) = (JJ : Int) := by have := HJJ.out; omega
      rw [hJJc] at HBX
      have HB3 : Hid _ := HBX
      clear hst hat hpre hg7 ho7 ho6 HBX hJJc
      go_wp2_with fail
      refine (HB3.out _ _ HST.out.1 HBF.out).mono ?_
      rintro r8 w8 ⟨v8, rfl, ho8, hb8⟩
      obtain ⟨g8, vc8, rfl⟩ := own_addr ho8 (by omega)
      have hpre8 : out ++ nI 2 ((N : Int) + 1) (JJ : Int) :: (C1 ++ [nI 3 0 0]) ++ C2 = (out ++ nI 2 ((N : Int) + 1) (JJ : Int) :: C1) ++ nI 3 0 0 :: C2 := by simp
      rw [hpre8] at ho8
      have hlJ : (out ++ nI 2 ((N : Int) + 1) (JJ : Int) :: C1).length = J := by simp only [List.length_append, List.length_cons]; have := HN.out; have := HJ.out; omega
      have hat8 : ((out ++ nI 2 ((N : Int) + 1) (JJ : Int) :: C1) ++ nI 3 0 0 :: C2)[J]? = some (nI 3 0 0) := by rw [List.getElem?_append_right (by rw [hlJ]; exact Nat.le_refl _), hlJ, Nat.sub_self]; rfl
      have d8 := OwnR.cell (f := 6) inE_len ho8 hat8 rfl
      have f8 := ho8.frozen (J * 8 + 6)
      have hst8 := OwnR.store (f := 6) (u := .int .i64 (L : Int)) (y := nI 3 L 0) inE_len ho8 hat8 (by omega) rfl
      rw [set_at hlJ] at hst8
      have HST8 : Hid _ := hst8
      have hgl8 := (ho8.lt g8 rfl).1
      have HBF8 : Hid (Below w0.heap.size w0 (w8.setCell ⟨g8, J * 8 + 6, none⟩ (.int .i64 (L : Int)))) := hb8.setCell hgl8 _
      have hJi : (J : Int) < (L : Int) := by omega
      clear hst8 hat8 hpre8 ho8 hlJ d7 f7
      go_wp2
      go_ret
      refine ⟨_, rfl, own_as HST8.out.1 ?_, HBF8.out⟩
      rw [← HRR.out]
      simp [List.append_assoc]
    have hk12 : (k == 12) = false := by simpa using hk
    have hm12 : k ≠ 12 := hk
    clear hk
    have hkb : 2 ≤ k ∧ k ≤ 5 := by omega
    rw [cod_b HX.out hkb]
    clear ih cl hlf hon htw hkb hF hm1 hm6 hm7 hm11 hm12 hm8 hm9 hm10
    obtain ⟨R, hR⟩ : ∃ R, out ++ [(⟨1, k, c, s, l, r, (N : Int) + 1, 0⟩ : In)] = R := ⟨_, rfl⟩
    (try simp only)
    rw [hR]
    have HRR : Hid _ := hR
    clear hR
    go_enter Try.func230, Try.ntmps230
    go_wp2_with (at_builtin; refine wpList_appIn rfl _ _ rfl w0.heap.size _ _ _ rfl (ho.alloc _) _ _ ((⟨1, k, c, s, l, r, (N : Int) + 1, 0⟩ : In)) rfl (cellsI _ ((⟨1, k, c, s, l, r, (N : Int) + 1, 0⟩ : In)) _) (by omega) (by simp; omega) ?_)
    intro v5 w5 ho5 hg5
    have hb5 := app_below (hbw.alloc hbw.size _) (ho.alloc _) hg5
    have HO5 : Hid _ := ho5
    clear ho5 hg5
    go_wp2
    go_ret
    exact ⟨v5, rfl, own_as HO5.out (by first | exact HRR.out | (rw [← HRR.out]; first | rfl | simp [List.append_assoc])), hb5⟩
end Go.Proofs.Ytocophekfbhfbaa
