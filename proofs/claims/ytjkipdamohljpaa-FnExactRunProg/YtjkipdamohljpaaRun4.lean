/-
  Run2a, Run2, Run3 in one text.
-/
import Derived.ChangeKeysEq
import Derived.Deep.RegionHeld3
import Derived.Test.YtjkipdamohljpaaRunM
import Derived.Test.YtjkipdamohljpaaSet5
import Derived.Test.YtjkipdamohljpaaProg2
import Derived.Test.YtjkipdamohljpaaMath2
import Derived.Test.YtjkipdamohljpaaRows
namespace Go.Proofs.Ytjkipdamohljpaa
open Go.RowKit
set_option linter.unusedVariables false
set_option linter.unusedSimpArgs false

theorem part80 {bs : List Bool} (hl : bs.length = 80) {i : Nat} (hi : i < 80) (w : World) : (part 4 (boolsA bs) (i * 1)).run Try.prog w = .ok (.bool (bs.getD i false)) w := by
  have ha := Try.isAgg4
  have h := boolsA_at bs i (by omega)
  simp [part, ha, h]

theorem eqItems80 {bs cs : List Bool} (hl : bs.length = 80) (hc : cs.length = 80) (w : World) : ∀ is : List Nat, (∀ i ∈ is, i < 80) → (Op.eqItems (9998 + 1) 4 1 (boolsA bs) (boolsA cs) is).run Try.prog w = .ok (is.all fun i => bs.getD i false == cs.getD i false) w
  | [], _ => by simp [Op.eqItems]
  | i :: is, h => by
    have ih := eqItems80 hl hc w is (fun j hj => h j (by simp [hj]))
    have p1 := part80 hl (h i (by simp)) w
    have p2 := part80 hc (h i (by simp)) w
    have p3 := run_equalIn_bool (P := Try.prog) w 9998 4 (bs.getD i false) (cs.getD i false) Try.underlying4
    simp only [Op.eqItems, Sem.run_bind, p1, p2, p3, Result.andThen_ok]
    cases hb : (bs.getD i false == cs.getD i false)
    · simp
      intro h0
      simp at hb
      exact absurd h0 hb
    · simp at hb
      simp [ih, hb]

theorem infoB0 : ∃ i, Try.prog.info? 4 = some i := by
  cases h : Try.prog.info? 4 with
  | none => have : (Try.prog.info? 4).isSome = true := by kernel_rfl
            rw [h] at this
            cases this
  | some i => exact ⟨i, rfl⟩

theorem all_eq {bs cs : List Bool} (hl : bs.length = 80) (hc : cs.length = 80) : ((List.range 80).all fun i => bs.getD i false == cs.getD i false) = decide (bs = cs) := by
  rw [Bool.eq_iff_iff, List.all_eq_true, decide_eq_true_eq]
  constructor
  · intro h
    apply List.ext_getElem (by omega)
    intro i h1 h2
    have := h i (by simp; omega)
    simpa [List.getD_eq_getElem?_getD, h1, h2] using this
  · rintro rfl i _
    simp

/-- Go's '!=' at sets. -/
theorem neq80 {bs cs : List Bool} (hl : bs.length = 80) (hc : cs.length = 80) (w : World) :
    (binOp .neq 76 (.agg (boolsA bs)) (.agg (boolsA cs))).run Try.prog w = .ok (.bool (!decide (bs = cs))) w := by
  obtain ⟨i, hi⟩ := infoB0
  have hce : Try.prog.cellsOf 4 = 1 := by kernel_rfl
  rw [run_neq_struct, show (10000 : Nat) = 9999 + 1 from rfl, run_equalIn_array w 9999 _ _ under80 hi, hce, show (9999 : Nat) = 9998 + 1 from rfl, eqItems80 hl hc w _ (fun i hi => by simpa using hi), all_eq hl hc]
  rfl

theorem guard80 (op : BinOp) (a b : Operand) (x y : Array Value) (w : World) : (eqGuard op 76 a b (.agg x) (.agg y)).run Try.prog w = .ok () w := run_eqGuard_agg w op 76 a b x y (by kernel_rfl)

theorem built0 : (Try.prog.built 76 []) = some (boolsA (List.replicate 80 false)) := by kernel_rfl
theorem built1 : (Try.prog.built 76 [(0, Value.bool true)]) = some (boolsA first80) := by kernel_rfl
end Go.Proofs.Ytjkipdamohljpaa

namespace Go.Proofs.Ytjkipdamohljpaa
open Go.RowKit
set_option linter.unusedVariables false
set_option linter.unusedSimpArgs false

theorem wpList_built {P : Program} {ops : Array Oper} {rest : List Oper} {o : Oper} {a : Act} {w : World} {Q : Exit → Act → World → Prop} (hg : o.guard = none) (t : TypeId) (parts : Array (Nat × Operand)) (ho : o.op = .build t parts) (A : Array Value)
    (hf : P.built t (parts.map fun (i, x) => (i, a.eval x)).toList = some A)
    (h : wpList P ops Q rest (a.put o.dst (.agg A)) w) : wpList P ops Q (o :: rest) a w :=
  wpList_build hg t parts ho (by rw [hf]; rfl) (by rw [hf]; exact h)

theorem bytes_at' {xs : List Int} {k : Nat} (h : Bytes xs) (hk : k < xs.length) : 0 ≤ xs.getD k 0 ∧ xs.getD k 0 < 256 := by
  have hm : xs.getD k 0 ∈ xs := by
    rw [List.getD_eq_getElem?_getD, List.getElem?_eq_getElem hk, Option.getD_some]
    exact List.getElem_mem hk
  have := h _ hm
  omega

set_option maxHeartbeats 6400000 in
set_option maxRecDepth 20000 in
theorem lastDone_any (a : Option Addr) (n ca : Nat) (is : List In) (x : Option Addr) (m cx : Nat) (xs : List Int) (at_ : Nat) (hin : Inside is) (h1 : 1 ≤ n) (h2 : n ≤ 80) (hm : m ≤ 400) (hat : at_ ≤ m) (hB : Bytes xs) (w : World) (ha : RdR inE 8 w a n is) (hx : Rd .u8 w x m xs) :
    Calls Try.prog 76 #[.slice a n ca, .slice x m cx, .int .i64 (at_ : Int)] w fun r w' => r = .returned (.int .i64 (runV is xs at_)) ∧ Below w.heap.size w w' := by
  obtain ⟨R, hR⟩ : ∃ R, R = runV is xs at_ := ⟨_, rfl⟩
  rw [← hR]
  have hln := ha.1
  have hlx := hx.1
  have HBY : Hid _ := hB
  have HLN : Hid _ := hln
  have HLX : Hid _ := hlx
  obtain ⟨Z, hZ⟩ : ∃ Z, Z = boolsA (List.replicate 80 false) := ⟨_, rfl⟩
  have hzv := zero80
  rw [← hZ] at hzv
  have HZS : Hid (Z.size = 80) := by rw [hZ]; exact size_set80 (by simp)
  have HB0 : Hid (Try.prog.built 76 [] = some Z) := by rw [hZ]; exact built0
  have HZ : Hid _ := hZ
  obtain ⟨F, hF⟩ : ∃ F, F = boolsA first80 := ⟨_, rfl⟩
  have HB1 : Hid (Try.prog.built 76 [(0, Value.bool true)] = some F) := by rw [hF]; exact built1
  obtain ⟨B0, hB0⟩ : ∃ B, B = decide (at_ = 0) := ⟨_, rfl⟩
  obtain ⟨E0, hE0⟩ : ∃ E, E = decide (at_ = xs.length) := ⟨_, rfl⟩
  have hB1 : ((at_ : Int) == 0) = B0 := by rw [hB0, Bool.eq_iff_iff]; simp
  have hB2 : decide ((at_ : Int) = 0) = B0 := by rw [hB0, decide_eq_decide]; omega
  have hE1 : ((at_ : Int) == (m : Int)) = E0 := by rw [hE0, Bool.eq_iff_iff]; simp only [beq_iff_eq, decide_eq_true_eq]; omega
  have hE2 : decide ((at_ : Int) = (m : Int)) = E0 := by rw [hE0, decide_eq_decide]; omega
  obtain ⟨q1, q2, q3, q4⟩ := first_eq hin (by omega) (by omega) B0 E0
  have hC0 := fun w' h' => closed_any a n ca is B0 E0 hin h2 first80 w' first80_len (by rw [hln] at q2; exact q2) h'
  rw [← hF] at hC0
  obtain ⟨bs0, hbs0⟩ : ∃ q, q = closeI is B0 E0 (placesOf first80) := ⟨_, rfl⟩
  rw [← hbs0] at hC0 q1 q3 q4
  have HM0 : Hid (mid is xs (m - at_ + 1) (placesOf bs0) at_ (-1) = R) := by
    have h : mid is xs (m - at_ + 1) (placesOf bs0) at_ (-1) = R := by rw [hR, q1, hB0, hE0]; unfold runV; rw [hlx]
    exact h
  have HQ3 : Hid (BelowN bs0 n) := by rw [hln] at q3; exact q3
  have HQ4 : Hid (bs0.length = 80) := q4
  obtain ⟨A0, hA0⟩ : ∃ q, q = boolsA bs0 := ⟨_, rfl⟩
  have HS0 : Hid (A0.size = 80) := by rw [hA0]; exact size_set80 q4
  have HO0 : Hid (A0.all (·.oneCell') = true) := by rw [hA0]; exact boolsA_one _
  rw [← hA0] at hC0
  have HA0 : Hid _ := hA0
  have HC0 : Hid _ := hC0
  clear hR hB hln hlx hZ hF hB0 hE0 q1 q2 q3 q4 hC0 hbs0 hA0
  go_enter Try.func76, Try.ntmps76
  go_wp2_with ((with_reducible show wpList _ _ _ (({ dst := _, op := .build 76 _, type := _, pos := _, after := _, guard := _ } : Oper) :: _) _ _); refine wpList_built rfl _ _ rfl (F) (by first | exact Eq.trans (by kernel_rfl) HB1.out | (simp [Act.eval]; exact HB1.out)) ?_)
  refine (HC0.out _ ha).mono ?_
  rintro r w1 ⟨rfl, hb1⟩
  have KB : Hid (Blk (w1.alloc (.cells Z 76)) w1.heap.size Z 76) := Blk.new w1 Z 76
  have KW : Hid (Below w.heap.size w ((w1.alloc (.cells Z 76)).setRow w1.heap.size A0)) := below_setRow (hb1.alloc hb1.size _) hb1.size _
  have KB2 : Hid (Blk ((w1.alloc (.cells Z 76)).setRow w1.heap.size A0) w1.heap.size (boolsA bs0) 76) := by rw [← HA0.out]; exact KB.out.setRow _
  have hz1 : w.heap.size ≤ w1.heap.size := hb1.size
  clear hb1
  go_wp2_with ((with_reducible show wpList _ _ _ (({ dst := _, op := .store 76 _ _, type := _, pos := _, after := _, guard := _ } : Oper) :: _) _ _); refine wpList_store_row rfl 76 _ _ rfl _ (A0) rfl rfl 76 (Z) KB.out (size80 HS0.out) (HZS.out.trans HS0.out.symm) HO0.out ?_)
  generalize hBB : w1.heap.size = B at *
  go_loopw [8, 10] (fun o i wr => ∃ (k f : Nat) (bs : List Bool) (out : Int), i = .int .i64 k ∧ o = .int .i64 out ∧ at_ ≤ k ∧ k ≤ m ∧ Hid (f + k = m) ∧ Hid (bs.length = 80) ∧ Hid (BelowN bs n) ∧ Hid (mid is xs (f + 1) (placesOf bs) k out = R) ∧ Hid (Blk wr B (boolsA bs) 76) ∧ Below w.heap.size w wr) (fun _ i _ => m + 1 - (intOf i).toNat)
  case atStart => exact ⟨at_, m - at_, bs0, -1, rfl, rfl, Nat.le_refl _, hat, (by omega : m - at_ + at_ = m), HQ4, HQ3, HM0, KB2, KW.out⟩
  case round =>
    obtain ⟨k, f, bs, out, rfl, rfl, hak, hkm, HFK, HBL, HBN, HM, HBk, hbw⟩ := hrel
    clear HM0 HQ3 HQ4 KB2 KW KB HC0
    have hpl := placesTo_full HBN.out (by rw [HBL.out]; exact h2)
    have hlen : n = is.length := HLN.out.symm
    have hne := fun w' => neq80 HBL.out (by simp : (List.replicate 80 false).length = 80) w'
    rw [← HZ.out] at hne
    have hne2 := boolsA_ne HBL.out
    have HDN := fun w' h' => isDone_any a n ca is h2 bs w' HBL.out h'
    rw [hpl] at HDN
    obtain ⟨A, hA⟩ : ∃ q, q = boolsA bs := ⟨_, rfl⟩
    have HSA : Hid (A.size = 80) := by rw [hA]; exact size_set80 HBL.out
    rw [← hA] at hne HDN HBk
    have HDN2 : Hid _ := HDN
    have hg := guard80
    clear HDN hlen
    by_cases hL0 : placesOf bs = []
    · have hd : decide (bs = List.replicate 80 false) = true := by
        rw [decide_eq_true_eq]
        exact Decidable.byContradiction fun q => hne2.1 q hL0
      rw [hd] at hne
      have hfin : out = R := by
        have := HM.out
        rw [hL0, mid_nil] at this
        exact this
      clear HM hne2 hd hL0 hpl hA
      subst hfin
      go_wp2_with (first | ((with_reducible show wpList _ _ _ (({ dst := _, op := .load 76 _, type := _, pos := _, after := _, guard := _ } : Oper) :: _) _ _); refine wpList_load_row rfl 76 _ rfl _ rfl 76 (A) (0, 0) _ HBk.out under80 rfl (size80 HSA.out) ?_) | ((with_reducible show wpList _ _ _ (({ dst := _, op := .build 76 _, type := _, pos := _, after := _, guard := _ } : Oper) :: _) _ _); refine wpList_built rfl _ _ rfl (Z) (by first | exact Eq.trans (by kernel_rfl) HB0.out | (simp [Act.eval]; exact HB0.out)) ?_))
      go_ret
      exact ⟨rfl, hbw⟩
    have hd : decide (bs = List.replicate 80 false) = false := by
      rw [decide_eq_false_iff_not]
      exact hne2.2 hL0
    rw [hd] at hne
    obtain ⟨D, hD⟩ : ∃ D, D = doneL is (placesOf bs) := ⟨_, rfl⟩
    have hHD := HDN2.out
    rw [← hD] at hHD
    have HD : Hid _ := hHD
    have hM := HM.out
    by_cases hkl : k = m
    · rw [mid_end hL0 (by rw [HLX.out]; exact hkl), ← hD] at hM
      clear HM hne2 hd hL0 hpl hA HDN2 hHD
      have hkm' : (k : Int) = (m : Int) := by omega
      have hkb : ((k : Int) == (m : Int)) = true := by simp [hkl]
      cases D
      · have hfin : out = R := hM
        clear hM hD
        subst hfin
        go_wp2_with (first | ((with_reducible show wpList _ _ _ (({ dst := _, op := .load 76 _, type := _, pos := _, after := _, guard := _ } : Oper) :: _) _ _); refine wpList_load_row rfl 76 _ rfl _ rfl 76 (A) (0, 0) _ HBk.out under80 rfl (size80 HSA.out) ?_) | ((with_reducible show wpList _ _ _ (({ dst := _, op := .build 76 _, type := _, pos := _, after := _, guard := _ } : Oper) :: _) _ _); refine wpList_built rfl _ _ rfl (Z) (by first | exact Eq.trans (by kernel_rfl) HB0.out | (simp [Act.eval]; exact HB0.out)) ?_))
        refine (HD.out _ (ha.below hbw)).mono ?_
        rintro r w3 ⟨rfl, hb3⟩
        have hbw3 := hbw.trans (hb3.mono hbw.size)
        clear hb3
        go_wp2
        go_ret
        exact ⟨rfl, hbw3⟩
      · have HF : Hid ((k : Int) = R) := hM
        clear hM hD
        go_wp2_with (first | ((with_reducible show wpList _ _ _ (({ dst := _, op := .load 76 _, type := _, pos := _, after := _, guard := _ } : Oper) :: _) _ _); refine wpList_load_row rfl 76 _ rfl _ rfl 76 (A) (0, 0) _ HBk.out under80 rfl (size80 HSA.out) ?_) | ((with_reducible show wpList _ _ _ (({ dst := _, op := .build 76 _, type := _, pos := _, after := _, guard := _ } : Oper) :: _) _ _); refine wpList_built rfl _ _ rfl (Z) (by first | exact Eq.trans (by kernel_rfl) HB0.out | (simp [Act.eval]; exact HB0.out)) ?_))
        refine (HD.out _ (ha.below hbw)).mono ?_
        rintro r w3 ⟨rfl, hb3⟩
        have hbw3 := hbw.trans (hb3.mono hbw.size)
        clear hb3
        go_wp2
        go_ret
        exact ⟨ret_int (by have := HF.out; omega), hbw3⟩
    have hkm' : k < m := by omega
    have hkmi : (k : Int) < (m : Int) := by omega
    have hkb : ((k : Int) == (m : Int)) = false := by simp; omega
    obtain ⟨f', rfl⟩ : ∃ f', f = f' + 1 := ⟨f - 1, by have := HFK.out; omega⟩
    rw [mid_go hL0 (by rw [HLX.out]; exact hkl), ← hD] at hM
    obtain ⟨bx, ox, rfl, hcx⟩ := (hx.below hbw).at hkm'
    have ck0 := hcx k hkm'
    have hdd := bytes_at' HBY.out (show k < xs.length by have := HLX.out; omega)
    obtain ⟨E, hE⟩ : ∃ E, E = decide (k + 1 = xs.length) := ⟨_, rfl⟩
    obtain ⟨e1, e2, e3, e4⟩ := next_eq hin (by have := HLN.out; omega) E (xs.getD k 0) HBL.out (by rw [HLN.out]; exact HBN.out)
    rw [HLN.out] at e1 e2 e3 e4
    rw [← hE, ← e1] at hM
    have HST0 := fun w' h' => stepped_any a n ca is hin (xs.getD k 0) hdd.1 hdd.2 h2 bs w' HBL.out h'
    have HCL0 := fun w' h' => closed_any a n ca is false E hin h2 (stepI is (xs.getD k 0) (placesTo bs n)) w' (stepI_len _ _ _) e2 h'
    rw [← hA] at HST0
    generalize hbs2 : closeI is false E (placesOf (stepI is (xs.getD k 0) (placesTo bs n))) = bs2 at hM HCL0 e3 e4
    generalize boolsA (stepI is (xs.getD k 0) (placesTo bs n)) = A5 at HST0 HCL0
    generalize xs.getD k 0 = d at *
    have HE3 : Hid _ := e3
    have HE4 : Hid _ := e4
    obtain ⟨A6, hA6⟩ : ∃ q, q = boolsA bs2 := ⟨_, rfl⟩
    rw [← hA6] at HCL0
    have HA6 : Hid _ := hA6
    have HS6 : Hid (A6.size = 80) := by rw [hA6]; exact size_set80 e4
    have HO6 : Hid (A6.all (·.oneCell') = true) := by rw [hA6]; exact boolsA_one _
    have HST : Hid _ := HST0
    have HCL : Hid _ := HCL0
    have HM2 : Hid (mid is xs (f' + 1) (placesOf bs2) (k + 1) (if D = true then (k : Int) else out) = R) := hM
    have hE1 : ((k : Int) + 1 == (m : Int)) = E := by rw [hE, Bool.eq_iff_iff]; simp only [beq_iff_eq, decide_eq_true_eq]; have := HLX.out; omega
    have hE2 : decide ((k : Int) + 1 = (m : Int)) = E := by rw [hE, decide_eq_decide]; have := HLX.out; omega
    have hwr : IntKind.i64.wrap ((k : Int) + 1) = (k : Int) + 1 := by rw [IntKind.wrap_i64]; omega
    have hbxw : bx < w.heap.size := block_lt_of_cell ((hx.at hkm').choose_spec.choose_spec.2 k hkm' |> fun h => by obtain ⟨b', o', e', h'⟩ := hx.at hkm'; simp only [Option.some.injEq, Addr.mk.injEq] at e'; obtain ⟨rfl, rfl, -⟩ := e'; exact h' k hkm')
    clear HM hM hne2 hd hL0 hpl hA HDN2 hHD hcx hdd hE e1 e2 e3 e4 hbs2 hA6 HST0 HCL0 hD
    cases D
    all_goals
      go_wp2_with (first | ((with_reducible show wpList _ _ _ (({ dst := _, op := .load 76 _, type := _, pos := _, after := _, guard := _ } : Oper) :: _) _ _); refine wpList_load_row rfl 76 _ rfl _ rfl 76 (A) (0, 0) _ HBk.out under80 rfl (size80 HSA.out) ?_) | ((with_reducible show wpList _ _ _ (({ dst := _, op := .build 76 _, type := _, pos := _, after := _, guard := _ } : Oper) :: _) _ _); refine wpList_built rfl _ _ rfl (Z) (by first | exact Eq.trans (by kernel_rfl) HB0.out | (simp [Act.eval]; exact HB0.out)) ?_))
      refine (HD.out _ (ha.below hbw)).mono ?_
      rintro r w3 ⟨rfl, hb3⟩
      have hbw3 := hbw.trans (hb3.mono hbw.size)
      have ck := cell_later hb3 ck0
      have HB3 : Hid (Blk w3 B A 76) := HBk.out.below hb3
      have HBW3 : Hid _ := hbw3
      clear hb3
      go_wp2
      refine wp_region_held_drew (S := fun w' => (∃ u, Blk w' B u 76) ∧ w'.cell? ⟨bx, ox + k, none⟩ = some (.int .u8 d)) (by kernel_rfl) (by exact ⟨⟨A, HB3.out⟩, ck⟩) (fun hS => ?_)
      refine wpAnyH_take (i := 1) (v := (.slice a n ca)) rfl (by as_aux_lemma => kernel_rfl) (by as_aux_lemma => kernel_rfl) (by as_aux_lemma => kernel_rfl) (fun _ _ _ h => h) (Or.inl ⟨by kernel_rfl, ?_⟩) hS ?_
      · intro w hSw; (try dsimp only at hSw); go_simp
      simp only [Act.put, List.getElem_toArray, List.getElem_cons_zero, List.getElem_cons_succ, List.setIfInBounds_toArray, List.set_cons_zero, List.set_cons_succ]
      refine wpAnyH_take (i := 2) (v := (.slice (some ⟨bx, ox, none⟩) m cx)) rfl (by as_aux_lemma => kernel_rfl) (by as_aux_lemma => kernel_rfl) (by as_aux_lemma => kernel_rfl) (fun _ _ _ h => h) (Or.inl ⟨by kernel_rfl, ?_⟩) hS ?_
      · intro w hSw; (try dsimp only at hSw); go_simp
      simp only [Act.put, List.getElem_toArray, List.getElem_cons_zero, List.getElem_cons_succ, List.setIfInBounds_toArray, List.set_cons_zero, List.set_cons_succ]
      refine wpAnyH_take (i := 3) (v := (.int .i64 (k : Int))) rfl (by as_aux_lemma => kernel_rfl) (by as_aux_lemma => kernel_rfl) (by as_aux_lemma => kernel_rfl) (fun _ _ _ h => h) (Or.inl ⟨by kernel_rfl, ?_⟩) hS ?_
      · intro w hSw; (try dsimp only at hSw); go_simp
      simp only [Act.put, List.getElem_toArray, List.getElem_cons_zero, List.getElem_cons_succ, List.setIfInBounds_toArray, List.set_cons_zero, List.set_cons_succ]
      refine wpAnyH_take (i := 4) (v := (.pointer (some ⟨bx, ox + k, none⟩))) rfl (by as_aux_lemma => kernel_rfl) (by as_aux_lemma => kernel_rfl) (by as_aux_lemma => kernel_rfl) (fun _ _ _ h => h) (Or.inl ⟨by kernel_rfl, ?_⟩) hS ?_
      · intro w hSw; (try dsimp only at hSw); go_simp
      simp only [Act.put, List.getElem_toArray, List.getElem_cons_zero, List.getElem_cons_succ, List.setIfInBounds_toArray, List.set_cons_zero, List.set_cons_succ]
      refine wpAnyH_take (i := 5) (v := (.int .u8 d)) rfl (by as_aux_lemma => kernel_rfl) (by as_aux_lemma => kernel_rfl) (by as_aux_lemma => kernel_rfl) (fun _ _ _ h => h) (Or.inl ⟨by kernel_rfl, ?_⟩) hS ?_
      · intro w hSw; (try dsimp only at hSw); go_simp
      simp only [Act.put, List.getElem_toArray, List.getElem_cons_zero, List.getElem_cons_succ, List.setIfInBounds_toArray, List.set_cons_zero, List.set_cons_succ]
      refine wpAnyH_take (i := 7) (v := (.slice a n ca)) rfl (by as_aux_lemma => kernel_rfl) (by as_aux_lemma => kernel_rfl) (by as_aux_lemma => kernel_rfl) (fun _ _ _ h => h) (Or.inl ⟨by kernel_rfl, ?_⟩) hS ?_
      · intro w hSw; (try dsimp only at hSw); go_simp
      simp only [Act.put, List.getElem_toArray, List.getElem_cons_zero, List.getElem_cons_succ, List.setIfInBounds_toArray, List.set_cons_zero, List.set_cons_succ]
      refine wpAnyH_take (i := 8) (v := (.int .i64 (k : Int))) rfl (by as_aux_lemma => kernel_rfl) (by as_aux_lemma => kernel_rfl) (by as_aux_lemma => kernel_rfl) (fun _ _ _ h => h) (Or.inl ⟨by kernel_rfl, ?_⟩) hS ?_
      · intro w hSw; (try dsimp only at hSw); go_simp
      simp only [Act.put, List.getElem_toArray, List.getElem_cons_zero, List.getElem_cons_succ, List.setIfInBounds_toArray, List.set_cons_zero, List.set_cons_succ]
      refine wpAnyH_take (i := 9) (v := (.int .i64 ((k : Int) + 1))) rfl (by as_aux_lemma => kernel_rfl) (by as_aux_lemma => kernel_rfl) (by as_aux_lemma => kernel_rfl) (fun _ _ _ h => h) (Or.inl ⟨by kernel_rfl, ?_⟩) hS ?_
      · intro w hSw; (try dsimp only at hSw); go_simp
      simp only [Act.put, List.getElem_toArray, List.getElem_cons_zero, List.getElem_cons_succ, List.setIfInBounds_toArray, List.set_cons_zero, List.set_cons_succ]
      refine wpAnyH_take (i := 10) (v := (.int .i64 (m : Int))) rfl (by as_aux_lemma => kernel_rfl) (by as_aux_lemma => kernel_rfl) (by as_aux_lemma => kernel_rfl) (fun _ _ _ h => h) (Or.inl ⟨by kernel_rfl, ?_⟩) hS ?_
      · intro w hSw; (try dsimp only at hSw); go_simp
      simp only [Act.put, List.getElem_toArray, List.getElem_cons_zero, List.getElem_cons_succ, List.setIfInBounds_toArray, List.set_cons_zero, List.set_cons_succ]
      refine wpAnyH_take (i := 11) (v := (.bool E)) rfl (by as_aux_lemma => kernel_rfl) (by as_aux_lemma => kernel_rfl) (by as_aux_lemma => kernel_rfl) (fun _ _ _ h => h) (Or.inl ⟨by kernel_rfl, ?_⟩) hS ?_
      · intro w hSw; (try dsimp only at hSw); go_simp
      simp only [Act.put, List.getElem_toArray, List.getElem_cons_zero, List.getElem_cons_succ, List.setIfInBounds_toArray, List.set_cons_zero, List.set_cons_succ]
      refine wpAnyH_ready (rs := [0]) (by as_aux_lemma => kernel_rfl) (by simp) ?_
      refine AllReadyH.cons rfl (fun K hK => ?_) AllReadyH.nil
      refine wp_load_row 76 _ rfl B rfl 76 A (0, 0) _ (show Blk w3.drew B A 76 from HB3.out) under80 rfl (size80 HSA.out) ?_
      refine hK.out _ _ hS (fun hS => ?_)
      clear hK K
      (try simp only [Act.put, List.getElem_toArray, List.getElem_cons_zero, List.getElem_cons_succ, List.setIfInBounds_toArray, List.set_cons_zero, List.set_cons_succ])
      refine wpAnyH_ready (rs := [6]) (by as_aux_lemma => kernel_rfl) (by simp) ?_
      refine AllReadyH.cons rfl (fun K hK => ?_) AllReadyH.nil
      go_simp
      refine (HST.out _ (ha.below HBW3.out.drew)).mono ?_
      rintro r5 w5 ⟨rfl, hb5⟩
      have HB5 : Hid (Blk w5 B A 76) := (show Blk w3.drew B A 76 from HB3.out).below hb5
      refine hK.out _ _ ⟨⟨A, HB5.out⟩, cell_later hb5 hS.2⟩ (fun hS5 => ?_)
      clear hK K hS
      have hS := hS5
      clear hS5
      have hbw5 := HBW3.out.drew.trans (hb5.mono HBW3.out.size)
      clear hb5
      (try simp only [Act.put, List.getElem_toArray, List.getElem_cons_zero, List.getElem_cons_succ, List.setIfInBounds_toArray, List.set_cons_zero, List.set_cons_succ])
      refine wpAnyH_ready (rs := [12]) (by as_aux_lemma => kernel_rfl) (by simp) ?_
      refine AllReadyH.cons rfl (fun K hK => ?_) AllReadyH.nil
      go_simp
      refine (HCL.out _ (ha.below hbw5)).mono ?_
      rintro r6 w6 ⟨rfl, hb6⟩
      have HB6 : Hid (Blk w6 B A 76) := HB5.out.below hb6
      refine hK.out _ _ ⟨⟨A, HB6.out⟩, cell_later hb6 hS.2⟩ (fun hS6 => ?_)
      clear hK K hS
      have hS := hS6
      clear hS6
      have hbw6 := hbw5.trans (hb6.mono hbw5.size)
      clear hb6
      (try simp only [Act.put, List.getElem_toArray, List.getElem_cons_zero, List.getElem_cons_succ, List.setIfInBounds_toArray, List.set_cons_zero, List.set_cons_succ])
      refine wpAnyH_ready (rs := [13]) (by as_aux_lemma => kernel_rfl) (by simp) ?_
      refine AllReadyH.cons rfl (fun K hK => ?_) AllReadyH.nil
      refine wp_store_row 76 _ _ rfl B A6 rfl rfl 76 A HB6.out (size80 HS6.out) (HSA.out.trans HS6.out.symm) HO6.out ?_
      have ck6 : (w6.setRow B A6).cell? ⟨bx, ox + k, none⟩ = some (.int .u8 d) := (World.cell?_of_block (setRow_other w6 B bx A6 (by omega))).trans hS.2
      refine hK.out _ _ ⟨⟨A6, HB6.out.setRow A6⟩, ck6⟩ (fun hS7 => ?_)
      clear hK K hS
      have hS := hS7
      clear hS7
      (try simp only [Act.put, List.getElem_toArray, List.getElem_cons_zero, List.getElem_cons_succ, List.setIfInBounds_toArray, List.set_cons_zero, List.set_cons_succ])
      refine wpAnyH_done (by kernel_rfl) ?_ _
      clear hS
      have HBN6 : Hid (Blk (w6.setRow B A6) B (boolsA bs2) 76) := by rw [← HA6.out]; exact HB6.out.setRow _
      have KW6 : Hid (Below w.heap.size w (w6.setRow B A6)) := below_setRow hbw6 hz1 _
      go_wp2
      go_roundw
      case rel => exact ⟨k + 1, f', bs2, _, by go_num, rfl, by omega, by omega, (by have := HFK.out; omega : f' + (k + 1) = m), HE4, HE3, HM2, HBN6, KW6.out⟩
      case measure => simp [intOf]; omega
end Go.Proofs.Ytjkipdamohljpaa

namespace Go.Proofs.Ytjkipdamohljpaa
open Go.RowKit
set_option linter.unusedVariables false
set_option linter.unusedSimpArgs false

set_option maxHeartbeats 400000 in
theorem eqIntResult_yes (c v : Int) (w : World) :
    Calls Try.prog 44 #[.agg #[.int .i64 c, .int .i64 v], .agg #[.int .i64 c, .int .i64 v]] w fun e w' => e = .returned (.bool true) ∧ Below w.heap.size w w' := by
  go_enter Try.func44, Try.ntmps44
  go_wp2
  go_ret
  exact ⟨rfl, ((Below.refl _ _).alloc (Nat.le_refl _) _).alloc (by simp) _⟩

/-- What a box of two integers was, behind a call. -/
theorem box2 {w w1 : World} {e : TypeId} (hb : Below (w.alloc (.cells #[.int .i64 0, .int .i64 0] e)).heap.size (w.alloc (.cells #[.int .i64 0, .int .i64 0] e)) w1) :
    w1.cell? ⟨w.heap.size, 0, none⟩ = some (.int .i64 0) ∧ w1.cell? ⟨w.heap.size, 1, none⟩ = some (.int .i64 0) ∧ w1.frozen? ⟨w.heap.size, 0, none⟩ = false ∧ w1.frozen? ⟨w.heap.size, 1, none⟩ = false ∧ w.heap.size < w1.heap.size :=
  ⟨cell_later hb (by simp [go_sem]), cell_later hb (by simp [go_sem]), (hb.frozen (p := ⟨w.heap.size, 0, none⟩) (by simp)).trans (by simp [go_sem]), (hb.frozen (p := ⟨w.heap.size, 1, none⟩) (by simp)).trans (by simp [go_sem]), by have := hb.size; simp at this; omega⟩

set_option maxHeartbeats 1600000 in
set_option maxRecDepth 20000 in
theorem implRunProg_any (a : Option Addr) (n ca : Nat) (is : List In) (x : Option Addr) (m cx : Nat) (xs : List Int) (z : Int) (hB : Bytes xs) (w : World) (ha : RdR inE 8 w a n is) (hx : Rd .u8 w x m xs) (hs : inSum is ≤ 1048576) (h1 : n ≤ 1048576) (h2 : m ≤ 1048576) :
    Calls Try.prog 43 #[.slice a n ca, .slice x m cx, .int .i64 z] w fun r w' => r = .returned (.agg #[.int .i64 (rpCode is xs z), .int .i64 (rpVal is xs z)]) ∧ Below w.heap.size w w' := by
  have CP := fun w' h' => implProgFault_any a n ca is w' h' hs h1
  have B1 : ∀ o, Below w.heap.size w (w.alloc o) := fun o => (Below.refl _ _).alloc (Nat.le_refl _) o
  have hlx := hx.1
  by_cases hp : progFault is = 0
  case neg =>
    have e1 : rpCode is xs z = progFault is := by unfold rpCode; rw [if_pos hp]
    have e2 : rpVal is xs z = 0 := by unfold rpVal; rw [e1, if_neg hp]
    rw [e1, e2]
    generalize progFault is = P at *
    have hp' : (P == 0) = false := by simpa using hp
    have HP : Hid _ := CP
    clear CP hlx e1 e2
    go_enter Try.func43, Try.ntmps43
    go_wp2_with fail
    refine (HP.out _ (ha.below (B1 _))).mono ?_
    rintro r w1 ⟨rfl, hb1⟩
    obtain ⟨d0, d1, f0, f1, z1⟩ := box2 hb1
    have hb01 := (B1 _).trans (hb1.mono (B1 _).size)
    clear hb1
    go_wp2
    exact bodyPost_ret (v := .agg #[.int .i64 P, .int .i64 0]) (by simp [results, Try.results43, go_sem, d0, d1]) rfl ⟨rfl, (hb01.setCell (Nat.le_refl _) _).setCell (Nat.le_refl _) _⟩
  rw [hp] at CP
  have HP : Hid _ := CP
  clear CP
  by_cases h4 : 400 < m
  · have e1 : rpCode is xs z = 2 := by unfold rpCode; rw [if_neg (by simp [hp]), if_pos (by omega)]
    have e2 : rpVal is xs z = 0 := by unfold rpVal; rw [e1, if_neg (by omega)]
    rw [e1, e2]
    have h4' : (400 : Int) < (m : Int) := by omega
    clear hlx e1 e2 hp
    go_enter Try.func43, Try.ntmps43
    go_wp2_with fail
    refine (HP.out _ (ha.below (B1 _))).mono ?_
    rintro r w1 ⟨rfl, hb1⟩
    obtain ⟨d0, d1, f0, f1, z1⟩ := box2 hb1
    have hb01 := (B1 _).trans (hb1.mono (B1 _).size)
    clear hb1
    go_wp2
    exact bodyPost_ret (v := .agg #[.int .i64 2, .int .i64 0]) (by simp [results, Try.results43, go_sem, d0, d1]) rfl ⟨rfl, (hb01.setCell (Nat.le_refl _) _).setCell (Nat.le_refl _) _⟩
  have h4' : ¬ (400 : Int) < (m : Int) := by omega
  by_cases hz0 : z < 0
  · have e1 : rpCode is xs z = 3 := by unfold rpCode; rw [if_neg (by simp [hp]), if_neg (by omega), if_pos (by omega)]
    have e2 : rpVal is xs z = 0 := by unfold rpVal; rw [e1, if_neg (by omega)]
    rw [e1, e2]
    clear hlx e1 e2 hp
    go_enter Try.func43, Try.ntmps43
    go_wp2_with fail
    refine (HP.out _ (ha.below (B1 _))).mono ?_
    rintro r w1 ⟨rfl, hb1⟩
    obtain ⟨d0, d1, f0, f1, z1⟩ := box2 hb1
    have hb01 := (B1 _).trans (hb1.mono (B1 _).size)
    clear hb1
    go_wp2
    exact bodyPost_ret (v := .agg #[.int .i64 3, .int .i64 0]) (by simp [results, Try.results43, go_sem, d0, d1]) rfl ⟨rfl, (hb01.setCell (Nat.le_refl _) _).setCell (Nat.le_refl _) _⟩
  by_cases hzm : (m : Int) < z
  · have e1 : rpCode is xs z = 3 := by unfold rpCode; rw [if_neg (by simp [hp]), if_neg (by omega), if_pos (by omega)]
    have e2 : rpVal is xs z = 0 := by unfold rpVal; rw [e1, if_neg (by omega)]
    rw [e1, e2]
    clear hlx e1 e2 hp
    go_enter Try.func43, Try.ntmps43
    go_wp2_with fail
    refine (HP.out _ (ha.below (B1 _))).mono ?_
    rintro r w1 ⟨rfl, hb1⟩
    obtain ⟨d0, d1, f0, f1, z1⟩ := box2 hb1
    have hb01 := (B1 _).trans (hb1.mono (B1 _).size)
    clear hb1
    go_wp2
    exact bodyPost_ret (v := .agg #[.int .i64 3, .int .i64 0]) (by simp [results, Try.results43, go_sem, d0, d1]) rfl ⟨rfl, (hb01.setCell (Nat.le_refl _) _).setCell (Nat.le_refl _) _⟩
  obtain ⟨hn1, hn80, -⟩ := progFault_ok hp
  have hln := ha.1
  obtain ⟨at_, rfl⟩ : ∃ q : Nat, z = (q : Int) := ⟨z.toNat, by omega⟩
  have HR : Hid _ := fun w' h' h'' => lastDone_any a n ca is x m cx xs at_ (inside_of hp) (by omega) (by omega) (by omega) (by omega) hB w' h' h''
  have hge := runV_ge is xs at_
  have e1 : rpCode is xs (at_ : Int) = if runV is xs at_ < 0 then 4 else 0 := by
    unfold rpCode
    rw [if_neg (by simp [hp]), if_neg (by omega), if_neg (by omega), Int.toNat_natCast]
  have e2 : rpVal is xs (at_ : Int) = if runV is xs at_ < 0 then 0 else runV is xs at_ := by
    unfold rpVal
    rw [e1, Int.toNat_natCast]
    by_cases q : runV is xs at_ < 0
    · simp [q]
    · simp [q]
  rw [e1, e2]
  clear e1 e2 hlx hln hn1 hn80 hp hB
  generalize runV is xs at_ = V at *
  by_cases hV : V < 0
  · rw [if_pos hV, if_pos hV]
    obtain rfl : V = -1 := by omega
    go_enter Try.func43, Try.ntmps43
    go_wp2_with fail
    refine (HP.out _ (ha.below (B1 _))).mono ?_
    rintro r w1 ⟨rfl, hb1⟩
    obtain ⟨d0, d1, f0, f1, z1⟩ := box2 hb1
    have hb01 := (B1 _).trans (hb1.mono (B1 _).size)
    clear hb1
    go_wp2_with fail
    refine (HR.out _ (ha.below hb01) (hx.below hb01)).mono ?_
    rintro r w2 ⟨rfl, hb2⟩
    replace d0 := cell_later hb2 d0
    replace d1 := cell_later hb2 d1
    replace f0 : w2.frozen? ⟨w.heap.size, 0, none⟩ = false := (hb2.frozen (p := ⟨w.heap.size, 0, none⟩) (by exact z1)).trans f0
    replace f1 : w2.frozen? ⟨w.heap.size, 1, none⟩ = false := (hb2.frozen (p := ⟨w.heap.size, 1, none⟩) (by exact z1)).trans f1
    have hb02 := hb01.trans (hb2.mono hb01.size)
    clear hb2
    go_wp2
    exact bodyPost_ret (v := .agg #[.int .i64 4, .int .i64 0]) (by simp [results, Try.results43, go_sem, d0, d1]) rfl ⟨rfl, (hb02.setCell (Nat.le_refl _) _).setCell (Nat.le_refl _) _⟩
  · rw [if_neg hV, if_neg hV]
    have hV' : (V == -1) = false := by simp; omega
    go_enter Try.func43, Try.ntmps43
    go_wp2_with fail
    refine (HP.out _ (ha.below (B1 _))).mono ?_
    rintro r w1 ⟨rfl, hb1⟩
    obtain ⟨d0, d1, f0, f1, z1⟩ := box2 hb1
    have hb01 := (B1 _).trans (hb1.mono (B1 _).size)
    clear hb1
    go_wp2_with fail
    refine (HR.out _ (ha.below hb01) (hx.below hb01)).mono ?_
    rintro r w2 ⟨rfl, hb2⟩
    replace d0 := cell_later hb2 d0
    replace d1 := cell_later hb2 d1
    replace f0 : w2.frozen? ⟨w.heap.size, 0, none⟩ = false := (hb2.frozen (p := ⟨w.heap.size, 0, none⟩) (by exact z1)).trans f0
    replace f1 : w2.frozen? ⟨w.heap.size, 1, none⟩ = false := (hb2.frozen (p := ⟨w.heap.size, 1, none⟩) (by exact z1)).trans f1
    have hb02 := hb01.trans (hb2.mono hb01.size)
    clear hb2
    go_wp2
    exact bodyPost_ret (v := .agg #[.int .i64 0, .int .i64 V]) (by simp [results, Try.results43, go_sem, d0, d1]) rfl ⟨rfl, (hb02.setCell (Nat.le_refl _) _).setCell (Nat.le_refl _) _⟩
end Go.Proofs.Ytjkipdamohljpaa
