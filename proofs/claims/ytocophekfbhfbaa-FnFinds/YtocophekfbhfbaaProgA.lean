/-
  Prog3, Prog4 in one text.
-/
import Derived.Test.YtocophekfbhfbaaInstM
import Derived.Test.YtocophekfbhfbaaNode5
import Derived.Test.YtocophekfbhfbaaNode5b
namespace Go.Proofs.Ytocophekfbhfbaa
open Go.RowKit
set_option linter.unusedVariables false
set_option linter.unusedSimpArgs false

/-- Go's '==' at a node and nothing. -/
theorem eqlNode0 (k c : Int) (s : ByteArray) (l r : Int) (w : World) :
    (binOp .eql 151 (.agg #[.int .i64 k, .int .i64 c, .string s, .int .i64 l, .int .i64 r]) (.agg #[.int .i64 0, .int .i64 0, .string ⟨#[]⟩, .int .i64 0, .int .i64 0])).run Try.prog w = .ok (.bool (decide ((⟨k, c, s, l, r⟩ : Nd) = nd0))) w := by
  have u3 := Try.underlying2
  have a3 := Try.isAgg2
  have z3 := Try.sizeOf2
  have u9 := Try.underlying9
  have a9 := Try.isAgg9
  have z9 := Try.sizeOf9
  have hS : Try.prog.underlying 151 = some (.struct (Try.prog.fieldsOf 151)) := by kernel_rfl
  have hp : Try.prog.stoodInHeld 151 = false := by kernel_rfl
  rw [run_eql_struct, show (10000 : Nat) = 9999 + 1 from rfl, run_equalIn_agg w 9999 151 _ _ hS hp]
  simp only [Program.fieldsOf, Try.underlying151]
  go_simp
  have hs0 : s.toList = [] ↔ s = ⟨#[]⟩ := by rw [← baList]; simp [ByteArray.toList_eq]
  by_cases h1 : k = 0 <;> by_cases h2 : c = 0 <;> by_cases h3 : s = ⟨#[]⟩ <;> by_cases h4 : l = 0 <;> by_cases h5 : r = 0 <;> simp [h1, h2, h3, h4, h5, ndEq_iff, nd0, hs0, baList]

theorem l7Alone_is (k : Int) (b : Bool) (w : World) (h : decide (2 ≤ k ∧ k ≤ 5) = b) : Calls Try.prog 234 #[.int .i64 k] w fun e w' => e = .returned (.bool b) ∧ w' = w := by
  have h' := fun w' => in5_is k 2 5 b w' h
  have HH : Hid _ := h'
  clear h' h
  go_enter Try.func234, Try.ntmps234
  go_wp2_with fail
  refine (HH.out _).mono ?_
  rintro e w1 ⟨rfl, hw1⟩; have hw2 := hw1.symm; subst hw2; clear hw1
  go_wp2
  go_ret
  exact ⟨rfl, rfl⟩

set_option maxHeartbeats 4000000 in
set_option maxRecDepth 20000 in
theorem l7Form_any (b q : Nat) (i : In) (w : World)
    (c0 : w.cell? ⟨b, q, none⟩ = some (.int .i64 i.o)) (c1 : w.cell? ⟨b, q + 1, none⟩ = some (.int .i64 i.k)) (c2 : w.cell? ⟨b, q + 2, none⟩ = some (.int .i64 i.c)) (c3 : w.cell? ⟨b, q + 3, none⟩ = some (.string i.s)) (c4 : w.cell? ⟨b, q + 4, none⟩ = some (.int .i64 i.l)) (c5 : w.cell? ⟨b, q + 5, none⟩ = some (.int .i64 i.r)) (c6 : w.cell? ⟨b, q + 6, none⟩ = some (.int .i64 i.x)) (c7 : w.cell? ⟨b, q + 7, none⟩ = some (.int .i64 i.y)) :
    Calls Try.prog 204 #[.pointer (some ⟨b, q, none⟩)] w fun e w' => e = .returned (.bool (decide (FormI i))) ∧ w' = w := by
  obtain ⟨o, k, c, s, l, r, x, y⟩ := i
  simp only at c0 c1 c2 c3 c4 c5 c6 c7
  have CF := l5Form_any b (q + 1) ⟨k, c, s, l, r⟩ w c1 c2 c3 c4 c5
  obtain ⟨R, hR⟩ : ∃ R, R = decide (FormI ⟨o, k, c, s, l, r, x, y⟩) := ⟨_, rfl⟩
  rw [← hR]
  have HR : Hid (R = decide (FormI ⟨o, k, c, s, l, r, x, y⟩)) := hR
  clear hR
  have hne := eqlNode0
  have hg := fun (op : BinOp) (a b : Operand) (x y : Array Value) (w : World) => guardNode op a b x y w
  by_cases hI : 1 ≤ o ∧ o ≤ 6
  case neg =>
    have CI : Hid _ := fun w' => in5_is o 1 6 false w' (by simpa using hI)
    have hf : R = false := by rw [HR.out]; exact decide_eq_false (fun h => hI h.1)
    rw [hf]
    clear hI CF
    go_enter Try.func204, Try.ntmps204
    go_wp2_with fail
    refine (CI.out _).mono ?_
    rintro e w1 ⟨rfl, hw1⟩
    have hw2 := hw1.symm
    subst hw2
    clear hw1
    go_wp2
    go_ret
    exact ⟨rfl, rfl⟩
  have CI : Hid _ := fun w' => in5_is o 1 6 true w' (by simpa using hI)
  have hcls : o = 1 ∨ o = 2 ∨ o = 3 ∨ o = 4 ∨ o = 5 ∨ o = 6 := by omega
  clear hI
  rcases hcls with rfl | rfl | rfl | rfl | rfl | rfl
  · by_cases hy : y = 0
    · subst hy
      obtain ⟨A, hA⟩ : ∃ A, A = decide (2 ≤ k ∧ k ≤ 5) := ⟨_, rfl⟩
      have CA : Hid _ := fun w' => l7Alone_is k A w' hA.symm
      have hfin : R = (decide (FormP ⟨k, c, s, l, r⟩) && A) := by rw [HR.out, hA, ← Bool.decide_and, decide_eq_decide]; simp [FormI, In.nd]
      generalize decide (FormP ⟨k, c, s, l, r⟩) = F at CF hfin
      have HF : Hid _ := CF
      have HFI : Hid _ := hfin
      clear CF hfin hA
      cases F
      · have hfin := HFI.out
        simp only [Bool.false_and, Bool.true_and] at hfin
        subst hfin
        go_enter Try.func204, Try.ntmps204
        go_wp2_with (first | (go_at_call 77; refine (CI.out _).mono ?_; rintro e w1 ⟨rfl, hw1⟩; have hw2 := hw1.symm; subst hw2; clear hw1) | (go_at_call 179; refine Calls.mono HF.out ?_; rintro e w1 ⟨rfl, hw1⟩; have hw2 := hw1.symm; subst hw2; clear hw1) | (go_at_call 234; refine (CA.out _).mono ?_; rintro e w1 ⟨rfl, hw1⟩; have hw2 := hw1.symm; subst hw2; clear hw1))
        go_ret
        exact ⟨rfl, rfl⟩
      · have hfin := HFI.out
        simp only [Bool.false_and, Bool.true_and] at hfin
        subst hfin
        go_enter Try.func204, Try.ntmps204
        go_wp2_with (first | (go_at_call 77; refine (CI.out _).mono ?_; rintro e w1 ⟨rfl, hw1⟩; have hw2 := hw1.symm; subst hw2; clear hw1) | (go_at_call 179; refine Calls.mono HF.out ?_; rintro e w1 ⟨rfl, hw1⟩; have hw2 := hw1.symm; subst hw2; clear hw1) | (go_at_call 234; refine (CA.out _).mono ?_; rintro e w1 ⟨rfl, hw1⟩; have hw2 := hw1.symm; subst hw2; clear hw1))
        go_ret
        exact ⟨rfl, rfl⟩
    · have hy' : (y == 0) = false := by simpa using hy
      clear CF
      have hf : R = false := by rw [HR.out]; exact decide_eq_false (fun h => by have g := h.2.1; simp only at g; omega)
      subst hf
      go_enter Try.func204, Try.ntmps204
      go_wp2_with (first | (go_at_call 77; refine (CI.out _).mono ?_; rintro e w1 ⟨rfl, hw1⟩; have hw2 := hw1.symm; subst hw2; clear hw1))
      go_ret
      exact ⟨rfl, rfl⟩
  · have hf : decide ((⟨k, c, s, l, r⟩ : Nd) = nd0) = R := by rw [HR.out, decide_eq_decide]; simp [FormI, In.nd]
    have HF : Hid _ := hf
    clear CF hf
    go_enter Try.func204, Try.ntmps204
    go_wp2_with (first | (go_at_call 77; refine (CI.out _).mono ?_; rintro e w1 ⟨rfl, hw1⟩; have hw2 := hw1.symm; subst hw2; clear hw1))
    go_ret
    exact ⟨ret_bool (by rw [← HF.out]), rfl⟩
  · by_cases hy : y = 0
    · subst hy
      have hf : decide ((⟨k, c, s, l, r⟩ : Nd) = nd0) = R := by rw [HR.out, decide_eq_decide]; simp [FormI, In.nd]
      have HF : Hid _ := hf
      clear CF hf
      go_enter Try.func204, Try.ntmps204
      go_wp2_with (first | (go_at_call 77; refine (CI.out _).mono ?_; rintro e w1 ⟨rfl, hw1⟩; have hw2 := hw1.symm; subst hw2; clear hw1))
      go_ret
      exact ⟨ret_bool (by rw [← HF.out]), rfl⟩
    · have hy' : (y == 0) = false := by simpa using hy
      clear CF
      have hf : R = false := by rw [HR.out]; exact decide_eq_false (fun h => by have g := h.2.1; simp only at g; omega)
      subst hf
      go_enter Try.func204, Try.ntmps204
      go_wp2_with (first | (go_at_call 77; refine (CI.out _).mono ?_; rintro e w1 ⟨rfl, hw1⟩; have hw2 := hw1.symm; subst hw2; clear hw1))
      go_ret
      exact ⟨rfl, rfl⟩
  · by_cases hy : y = 0
    · subst hy
      have hf : decide ((⟨k, c, s, l, r⟩ : Nd) = nd0) = R := by rw [HR.out, decide_eq_decide]; simp [FormI, In.nd]
      have HF : Hid _ := hf
      clear CF hf
      go_enter Try.func204, Try.ntmps204
      go_wp2_with (first | (go_at_call 77; refine (CI.out _).mono ?_; rintro e w1 ⟨rfl, hw1⟩; have hw2 := hw1.symm; subst hw2; clear hw1))
      go_ret
      exact ⟨ret_bool (by rw [← HF.out]), rfl⟩
    · have hy' : (y == 0) = false := by simpa using hy
      clear CF
      have hf : R = false := by rw [HR.out]; exact decide_eq_false (fun h => by have g := h.2.1; simp only at g; omega)
      subst hf
      go_enter Try.func204, Try.ntmps204
      go_wp2_with (first | (go_at_call 77; refine (CI.out _).mono ?_; rintro e w1 ⟨rfl, hw1⟩; have hw2 := hw1.symm; subst hw2; clear hw1))
      go_ret
      exact ⟨rfl, rfl⟩
  · by_cases hy : y = 0
    · subst hy
      have hf : decide ((⟨k, c, s, l, r⟩ : Nd) = nd0) = R := by rw [HR.out, decide_eq_decide]; simp [FormI, In.nd]
      have HF : Hid _ := hf
      clear CF hf
      go_enter Try.func204, Try.ntmps204
      go_wp2_with (first | (go_at_call 77; refine (CI.out _).mono ?_; rintro e w1 ⟨rfl, hw1⟩; have hw2 := hw1.symm; subst hw2; clear hw1))
      go_ret
      exact ⟨ret_bool (by rw [← HF.out]), rfl⟩
    · have hy' : (y == 0) = false := by simpa using hy
      clear CF
      have hf : R = false := by rw [HR.out]; exact decide_eq_false (fun h => by have g := h.2.1; simp only at g; omega)
      subst hf
      go_enter Try.func204, Try.ntmps204
      go_wp2_with (first | (go_at_call 77; refine (CI.out _).mono ?_; rintro e w1 ⟨rfl, hw1⟩; have hw2 := hw1.symm; subst hw2; clear hw1))
      go_ret
      exact ⟨rfl, rfl⟩
  · by_cases hy : y = 0
    · subst hy
      by_cases hx : x = 0
      · subst hx
        have hf : decide ((⟨k, c, s, l, r⟩ : Nd) = nd0) = R := by rw [HR.out, decide_eq_decide]; simp [FormI, In.nd]
        have HF : Hid _ := hf
        clear CF hf
        go_enter Try.func204, Try.ntmps204
        go_wp2_with (first | (go_at_call 77; refine (CI.out _).mono ?_; rintro e w1 ⟨rfl, hw1⟩; have hw2 := hw1.symm; subst hw2; clear hw1))
        go_ret
        exact ⟨ret_bool (by rw [← HF.out]), rfl⟩
      · have hx' : (x == 0) = false := by simpa using hx
        clear CF
        have hf : R = false := by rw [HR.out]; exact decide_eq_false (fun h => by have g := h.2.2.1; simp only at g; omega)
        subst hf
        go_enter Try.func204, Try.ntmps204
        go_wp2_with (first | (go_at_call 77; refine (CI.out _).mono ?_; rintro e w1 ⟨rfl, hw1⟩; have hw2 := hw1.symm; subst hw2; clear hw1))
        go_ret
        exact ⟨rfl, rfl⟩
    · have hy' : (y == 0) = false := by simpa using hy
      clear CF
      have hf : R = false := by rw [HR.out]; exact decide_eq_false (fun h => by have g := h.2.1; simp only at g; omega)
      subst hf
      go_enter Try.func204, Try.ntmps204
      go_wp2_with (first | (go_at_call 77; refine (CI.out _).mono ?_; rintro e w1 ⟨rfl, hw1⟩; have hw2 := hw1.symm; subst hw2; clear hw1))
      go_ret
      exact ⟨rfl, rfl⟩

theorem instF_mk {n o k c : Int} {s : ByteArray} {l r x y : Int} (h : FormI ⟨o, k, c, s, l, r, x, y⟩) :
    instF n ⟨o, k, c, s, l, r, x, y⟩ = if o = 1 ∧ rangeB ⟨k, c, s, l, r⟩ = false then 3 else if ¬ (0 ≤ x ∧ x < n) ∨ ¬ (0 ≤ y ∧ y < n) then 3 else 0 := by
  unfold instF
  rw [if_neg (by simpa using h)]
  rfl

set_option maxHeartbeats 6400000 in
set_option maxRecDepth 20000 in
theorem l7Fault_any (a : Option Addr) (n ca : Nat) (cs : List In) (w : World) (ha : RdR inE 8 w a n cs) (hs : inSum cs ≤ 1048576) (h1 : n ≤ 1048576) :
    Calls Try.prog 140 #[.slice a n ca] w fun e w' => e = .returned (.int .i64 (progFault cs)) ∧ Below w.heap.size w w' := by
  have hlen := ha.1
  by_cases hn : 1 ≤ n ∧ n ≤ 80
  case neg =>
    have e : progFault cs = 2 := by unfold progFault; rw [if_pos (by omega)]
    rw [e]
    have CI : Hid _ := fun w' => in5_is (n : Int) 1 80 false w' (by simp; omega)
    go_enter Try.func140, Try.ntmps140
    go_wp2_with (go_at_call 77; refine (CI.out _).mono ?_; rintro e w1 ⟨rfl, hw1⟩; have hw2 := hw1.symm; subst hw2; clear hw1)
    go_ret
    exact ⟨rfl, Below.refl _ _⟩
  have CI : Hid _ := fun w' => in5_is (n : Int) 1 80 true w' (by simp; omega)
  obtain ⟨R, hR⟩ : ∃ R, R = progFault cs := ⟨_, rfl⟩
  rw [← hR]
  have HT0 : progGo n (cs.drop 0) = R := by rw [hR]; unfold progFault; rw [if_neg (by omega), hlen]; rfl
  have HT : Hid (progGo n (cs.drop 0) = R) := HT0
  have HL : Hid _ := hlen
  have HS : Hid _ := hs
  clear hR hlen hs HT0
  obtain ⟨hn1, hn80⟩ := hn
  go_enter Try.func140, Try.ntmps140
  go_wp2_with (go_at_call 77; refine (CI.out _).mono ?_; rintro e w1 ⟨rfl, hw1⟩; have hw2 := hw1.symm; subst hw2; clear hw1)
  go_loopw [4] (fun i wr => ∃ k : Nat, k ≤ n ∧ i = .int .i64 k ∧ Hid (progGo n (cs.drop k) = R) ∧ Below w.heap.size w wr) (fun i _ => n - (intOf i).toNat)
  case atStart => exact ⟨0, Nat.zero_le _, rfl, HT, Below.refl _ _⟩
  case round =>
    obtain ⟨j, hj, rfl, ht, hbw⟩ := hrel
    clear HT CI
    by_cases hlt : j < n
    · obtain ⟨b, off, i, rfl, hx, hc1⟩ := (ha.below hbw).at hlt
      obtain ⟨c0, c1, c2, c3, c4, c5, c6, c7⟩ := eight hc1
      have hsz := inSum_at (List.mem_of_getElem? hx)
      have hss := HS.out
      have ht2 := ht.out
      rw [progGo_at hx] at ht2
      have CF := l7Form_any b (off + j * 8) i wr c0 c1 c2 c3 c4 c5 c6 c7
      have CS : Hid _ := fun w' => l5Set_any i.s w' (by omega)
      clear hx hc1 hsz hss ht
      have hlt' : (j : Int) < (n : Int) := by omega
      by_cases hf : FormI i
      case neg =>
        have hF : instF n i = 1 := by unfold instF; rw [if_pos hf]
        rw [hF, if_neg (by omega)] at ht2
        subst ht2
        rw [decide_eq_false hf] at CF
        have HF : Hid _ := CF
        clear CF hf hF CS
        obtain ⟨o, k, c, s, l, r, x, y⟩ := i
        simp only at c0 c1 c2 c3 c4 c5 c6 c7
        go_wp2_with (go_at_call 204; refine Calls.mono HF.out ?_; rintro e w1 ⟨rfl, hw1⟩; have hw2 := hw1.symm; subst hw2; clear hw1)
        go_ret
        exact ⟨rfl, hbw⟩
      rw [decide_eq_true hf] at CF
      have HF : Hid _ := CF
      clear CF
      have hk : i.o = 1 → 2 ≤ i.k ∧ i.k ≤ 5 := fun h => ((form_has.1 hf).2 h).2
      obtain ⟨F, hF⟩ : ∃ F, F = instF n i := ⟨_, rfl⟩
      rw [← hF] at ht2
      obtain ⟨o, k, c, s, l, r, x, y⟩ := i
      simp only at c0 c1 c2 c3 c4 c5 c6 c7 HF CS hk
      rw [instF_mk hf] at hF
      clear hf
      by_cases ho : o = 1
      case neg =>
        have ho' : (o == 1) = false := by simpa using ho
        rw [if_neg (by simp [ho])] at hF
        clear CS
        by_cases hX : 0 ≤ x ∧ x < n
        case neg =>
          have CX : Hid _ := fun w' => in5_is x 0 ((n : Int) - 1) false w' (by simp; omega)
          rw [if_pos (by omega)] at hF
          subst hF
          rw [if_neg (by omega)] at ht2
          subst ht2
          clear hk
          go_wp2_with fail
          refine Calls.mono HF.out ?_
          rintro e w1 ⟨rfl, hw1⟩
          have hw2 := hw1.symm
          subst hw2
          clear hw1
          go_wp2_with fail
          refine (CX.out _).mono ?_
          rintro e w1 ⟨rfl, hw1⟩
          have hw2 := hw1.symm
          subst hw2
          clear hw1
          go_wp2
          go_ret
          exact ⟨rfl, hbw⟩
        have CX : Hid _ := fun w' => in5_is x 0 ((n : Int) - 1) true w' (by simp; omega)
        by_cases hY : 0 ≤ y ∧ y < n
        case neg =>
          have CY : Hid _ := fun w' => in5_is y 0 ((n : Int) - 1) false w' (by simp; omega)
          rw [if_pos (by omega)] at hF
          subst hF
          rw [if_neg (by omega)] at ht2
          subst ht2
          clear hk
          go_wp2_with fail
          refine Calls.mono HF.out ?_
          rintro e w1 ⟨rfl, hw1⟩
          have hw2 := hw1.symm
          subst hw2
          clear hw1
          go_wp2_with fail
          refine (CX.out _).mono ?_
          rintro e w1 ⟨rfl, hw1⟩
          have hw2 := hw1.symm
          subst hw2
          clear hw1
          go_wp2_with fail
          refine (CY.out _).mono ?_
          rintro e w1 ⟨rfl, hw1⟩
          have hw2 := hw1.symm
          subst hw2
          clear hw1
          go_wp2
          go_ret
          exact ⟨rfl, hbw⟩
        have CY : Hid _ := fun w' => in5_is y 0 ((n : Int) - 1) true w' (by simp; omega)
        rw [if_neg (by omega)] at hF
        subst hF
        rw [if_pos rfl] at ht2
        have HT2 : Hid _ := ht2
        clear ht2 hk
        go_wp2_with fail
        refine Calls.mono HF.out ?_
        rintro e w1 ⟨rfl, hw1⟩
        have hw2 := hw1.symm
        subst hw2
        clear hw1
        go_wp2_with fail
        refine (CX.out _).mono ?_
        rintro e w1 ⟨rfl, hw1⟩
        have hw2 := hw1.symm
        subst hw2
        clear hw1
        go_wp2_with fail
        refine (CY.out _).mono ?_
        rintro e w1 ⟨rfl, hw1⟩
        have hw2 := hw1.symm
        subst hw2
        clear hw1
        go_wp2
        go_roundw
        case rel => exact ⟨j + 1, by omega, by go_num, HT2, hbw⟩
        case measure => simp [intOf]; omega
      subst ho
      have hkk := hk rfl
      have hcls : k = 2 ∨ k = 3 ∨ (k = 4 ∨ k = 5) := by omega
      clear hkk hk
      have hk := trivial
      rcases hcls with rfl | rfl | h45
      · have CH : Hid _ := fun w' => l5Has_is 2 false w' (by decide)
        have hrg : rangeB ⟨2, c, s, l, r⟩ = decide (32 ≤ c ∧ c ≤ 126) := by unfold rangeB; rw [if_pos rfl]
        rw [hrg] at hF
        clear CS hrg
        by_cases hci : 32 ≤ c ∧ c ≤ 126
        case neg =>
          have CC : Hid _ := fun w' => in5_is c 32 126 false w' (by simpa using hci)
          rw [if_pos ⟨rfl, decide_eq_false hci⟩] at hF
          subst hF
          rw [if_neg (by omega)] at ht2
          subst ht2
          clear hk
          go_wp2_with fail
          refine Calls.mono HF.out ?_
          rintro e w1 ⟨rfl, hw1⟩
          have hw2 := hw1.symm
          subst hw2
          clear hw1
          go_wp2_with fail
          refine (CC.out _).mono ?_
          rintro e w1 ⟨rfl, hw1⟩
          have hw2 := hw1.symm
          subst hw2
          clear hw1
          go_wp2
          go_ret
          exact ⟨rfl, hbw⟩
        have CC : Hid _ := fun w' => in5_is c 32 126 true w' (by simpa using hci)
        rw [if_neg (by simp [hci])] at hF
        by_cases hX : 0 ≤ x ∧ x < n
        case neg =>
          have CX : Hid _ := fun w' => in5_is x 0 ((n : Int) - 1) false w' (by simp; omega)
          rw [if_pos (by omega)] at hF
          subst hF
          rw [if_neg (by omega)] at ht2
          subst ht2
          clear hk
          go_wp2_with fail
          refine Calls.mono HF.out ?_
          rintro e w1 ⟨rfl, hw1⟩
          have hw2 := hw1.symm
          subst hw2
          clear hw1
          go_wp2_with fail
          refine (CC.out _).mono ?_
          rintro e w1 ⟨rfl, hw1⟩
          have hw2 := hw1.symm
          subst hw2
          clear hw1
          go_wp2_with fail
          refine (CH.out _).mono ?_
          rintro e w1 ⟨rfl, hw1⟩
          have hw2 := hw1.symm
          subst hw2
          clear hw1
          go_wp2_with fail
          refine (CX.out _).mono ?_
          rintro e w1 ⟨rfl, hw1⟩
          have hw2 := hw1.symm
          subst hw2
          clear hw1
          go_wp2
          go_ret
          exact ⟨rfl, hbw⟩
        have CX : Hid _ := fun w' => in5_is x 0 ((n : Int) - 1) true w' (by simp; omega)
        by_cases hY : 0 ≤ y ∧ y < n
        case neg =>
          have CY : Hid _ := fun w' => in5_is y 0 ((n : Int) - 1) false w' (by simp; omega)
          rw [if_pos (by omega)] at hF
          subst hF
          rw [if_neg (by omega)] at ht2
          subst ht2
          clear hk
          go_wp2_with fail
          refine Calls.mono HF.out ?_
          rintro e w1 ⟨rfl, hw1⟩
          have hw2 := hw1.symm
          subst hw2
          clear hw1
          go_wp2_with fail
          refine (CC.out _).mono ?_
          rintro e w1 ⟨rfl, hw1⟩
          have hw2 := hw1.symm
          subst hw2
          clear hw1
          go_wp2_with fail
          refine (CH.out _).mono ?_
          rintro e w1 ⟨rfl, hw1⟩
          have hw2 := hw1.symm
          subst hw2
          clear hw1
          go_wp2_with fail
          refine (CX.out _).mono ?_
          rintro e w1 ⟨rfl, hw1⟩
          have hw2 := hw1.symm
          subst hw2
          clear hw1
          go_wp2_with fail
          refine (CY.out _).mono ?_
          rintro e w1 ⟨rfl, hw1⟩
          have hw2 := hw1.symm
          subst hw2
          clear hw1
          go_wp2
          go_ret
          exact ⟨rfl, hbw⟩
        have CY : Hid _ := fun w' => in5_is y 0 ((n : Int) - 1) true w' (by simp; omega)
        rw [if_neg (by omega)] at hF
        subst hF
        rw [if_pos rfl] at ht2
        have HT2 : Hid _ := ht2
        clear ht2 hk
        go_wp2_with fail
        refine Calls.mono HF.out ?_
        rintro e w1 ⟨rfl, hw1⟩
        have hw2 := hw1.symm
        subst hw2
        clear hw1
        go_wp2_with fail
        refine (CC.out _).mono ?_
        rintro e w1 ⟨rfl, hw1⟩
        have hw2 := hw1.symm
        subst hw2
        clear hw1
        go_wp2_with fail
        refine (CH.out _).mono ?_
        rintro e w1 ⟨rfl, hw1⟩
        have hw2 := hw1.symm
        subst hw2
        clear hw1
        go_wp2_with fail
        refine (CX.out _).mono ?_
        rintro e w1 ⟨rfl, hw1⟩
        have hw2 := hw1.symm
        subst hw2
        clear hw1
        go_wp2_with fail
        refine (CY.out _).mono ?_
        rintro e w1 ⟨rfl, hw1⟩
        have hw2 := hw1.symm
        subst hw2
        clear hw1
        go_wp2
        go_roundw
        case rel => exact ⟨j + 1, by omega, by go_num, HT2, hbw⟩
        case measure => simp [intOf]; omega
      · have CH : Hid _ := fun w' => l5Has_is 3 false w' (by decide)
        have hrg : rangeB ⟨3, c, s, l, r⟩ = true := by unfold rangeB; rw [if_neg (by simp), if_neg (by simp)]
        rw [hrg, if_neg (by simp)] at hF
        clear CS hrg
        by_cases hX : 0 ≤ x ∧ x < n
        case neg =>
          have CX : Hid _ := fun w' => in5_is x 0 ((n : Int) - 1) false w' (by simp; omega)
          rw [if_pos (by omega)] at hF
          subst hF
          rw [if_neg (by omega)] at ht2
          subst ht2
          clear hk
          go_wp2_with fail
          refine Calls.mono HF.out ?_
          rintro e w1 ⟨rfl, hw1⟩
          have hw2 := hw1.symm
          subst hw2
          clear hw1
          go_wp2_with fail
          refine (CH.out _).mono ?_
          rintro e w1 ⟨rfl, hw1⟩
          have hw2 := hw1.symm
          subst hw2
          clear hw1
          go_wp2_with fail
          refine (CX.out _).mono ?_
          rintro e w1 ⟨rfl, hw1⟩
          have hw2 := hw1.symm
          subst hw2
          clear hw1
          go_wp2
          go_ret
          exact ⟨rfl, hbw⟩
        have CX : Hid _ := fun w' => in5_is x 0 ((n : Int) - 1) true w' (by simp; omega)
        by_cases hY : 0 ≤ y ∧ y < n
        case neg =>
          have CY : Hid _ := fun w' => in5_is y 0 ((n : Int) - 1) false w' (by simp; omega)
          rw [if_pos (by omega)] at hF
          subst hF
          rw [if_neg (by omega)] at ht2
          subst ht2
          clear hk
          go_wp2_with fail
          refine Calls.mono HF.out ?_
          rintro e w1 ⟨rfl, hw1⟩
          have hw2 := hw1.symm
          subst hw2
          clear hw1
          go_wp2_with fail
          refine (CH.out _).mono ?_
          rintro e w1 ⟨rfl, hw1⟩
          have hw2 := hw1.symm
          subst hw2
          clear hw1
          go_wp2_with fail
          refine (CX.out _).mono ?_
          rintro e w1 ⟨rfl, hw1⟩
          have hw2 := hw1.symm
          subst hw2
          clear hw1
          go_wp2_with fail
          refine (CY.out _).mono ?_
          rintro e w1 ⟨rfl, hw1⟩
          have hw2 := hw1.symm
          subst hw2
          clear hw1
          go_wp2
          go_ret
          exact ⟨rfl, hbw⟩
        have CY : Hid _ := fun w' => in5_is y 0 ((n : Int) - 1) true w' (by simp; omega)
        rw [if_neg (by omega)] at hF
        subst hF
        rw [if_pos rfl] at ht2
        have HT2 : Hid _ := ht2
        clear ht2 hk
        go_wp2_with fail
        refine Calls.mono HF.out ?_
        rintro e w1 ⟨rfl, hw1⟩
        have hw2 := hw1.symm
        subst hw2
        clear hw1
        go_wp2_with fail
        refine (CH.out _).mono ?_
        rintro e w1 ⟨rfl, hw1⟩
        have hw2 := hw1.symm
        subst hw2
        clear hw1
        go_wp2_with fail
        refine (CX.out _).mono ?_
        rintro e w1 ⟨rfl, hw1⟩
        have hw2 := hw1.symm
        subst hw2
        clear hw1
        go_wp2_with fail
        refine (CY.out _).mono ?_
        rintro e w1 ⟨rfl, hw1⟩
        have hw2 := hw1.symm
        subst hw2
        clear hw1
        go_wp2
        go_roundw
        case rel => exact ⟨j + 1, by omega, by go_num, HT2, hbw⟩
        case measure => simp [intOf]; omega
      · have CH : Hid _ := fun w' => l5Has_is k true w' (by simpa using h45)
        have hk2 : (k == 2) = false := by simp; omega
        have hrg : rangeB ⟨k, c, s, l, r⟩ = setB s := by unfold rangeB; rw [if_neg (by simp only; omega), if_pos h45]
        rw [hrg] at hF
        clear hrg
        by_cases hset : setB s = true
        case neg =>
          have hset : setB s = false := by simpa using hset
          have CS' := CS.out
          rw [hset] at CS'
          have CS : Hid _ := CS'
          rw [if_pos ⟨rfl, hset⟩] at hF
          subst hF
          clear CS' hset h45
          rw [if_neg (by omega)] at ht2
          subst ht2
          clear hk
          go_wp2_with fail
          refine Calls.mono HF.out ?_
          rintro e w1 ⟨rfl, hw1⟩
          have hw2 := hw1.symm
          subst hw2
          clear hw1
          go_wp2_with fail
          refine (CH.out _).mono ?_
          rintro e w1 ⟨rfl, hw1⟩
          have hw2 := hw1.symm
          subst hw2
          clear hw1
          go_wp2_with fail
          refine (CS.out _).mono ?_
          rintro e w2 ⟨rfl, hb2⟩
          replace c0 := cell_later hb2 c0
          replace c1 := cell_later hb2 c1
          replace c2 := cell_later hb2 c2
          replace c3 := cell_later hb2 c3
          replace c4 := cell_later hb2 c4
          replace c5 := cell_later hb2 c5
          replace c6 := cell_later hb2 c6
          replace c7 := cell_later hb2 c7
          go_wp2
          go_ret
          exact ⟨rfl, hbw.trans (hb2.mono hbw.size)⟩
        have CS' := CS.out
        rw [hset] at CS'
        clear CS
        have CS : Hid _ := CS'
        rw [if_neg (by simp [hset])] at hF
        clear CS' hset h45
        by_cases hX : 0 ≤ x ∧ x < n
        case neg =>
          have CX : Hid _ := fun w' => in5_is x 0 ((n : Int) - 1) false w' (by simp; omega)
          rw [if_pos (by omega)] at hF
          subst hF
          rw [if_neg (by omega)] at ht2
          subst ht2
          clear hk
          go_wp2_with fail
          refine Calls.mono HF.out ?_
          rintro e w1 ⟨rfl, hw1⟩
          have hw2 := hw1.symm
          subst hw2
          clear hw1
          go_wp2_with fail
          refine (CH.out _).mono ?_
          rintro e w1 ⟨rfl, hw1⟩
          have hw2 := hw1.symm
          subst hw2
          clear hw1
          go_wp2_with fail
          refine (CS.out _).mono ?_
          rintro e w2 ⟨rfl, hb2⟩
          replace c0 := cell_later hb2 c0
          replace c1 := cell_later hb2 c1
          replace c2 := cell_later hb2 c2
          replace c3 := cell_later hb2 c3
          replace c4 := cell_later hb2 c4
          replace c5 := cell_later hb2 c5
          replace c6 := cell_later hb2 c6
          replace c7 := cell_later hb2 c7
          go_wp2_with fail
          refine (CX.out _).mono ?_
          rintro e w1 ⟨rfl, hw1⟩
          have hw2 := hw1.symm
          subst hw2
          clear hw1
          go_wp2
          go_ret
          exact ⟨rfl, hbw.trans (hb2.mono hbw.size)⟩
        have CX : Hid _ := fun w' => in5_is x 0 ((n : Int) - 1) true w' (by simp; omega)
        by_cases hY : 0 ≤ y ∧ y < n
        case neg =>
          have CY : Hid _ := fun w' => in5_is y 0 ((n : Int) - 1) false w' (by simp; omega)
          rw [if_pos (by omega)] at hF
          subst hF
          rw [if_neg (by omega)] at ht2
          subst ht2
          clear hk
          go_wp2_with fail
          refine Calls.mono HF.out ?_
          rintro e w1 ⟨rfl, hw1⟩
          have hw2 := hw1.symm
          subst hw2
          clear hw1
          go_wp2_with fail
          refine (CH.out _).mono ?_
          rintro e w1 ⟨rfl, hw1⟩
          have hw2 := hw1.symm
          subst hw2
          clear hw1
          go_wp2_with fail
          refine (CS.out _).mono ?_
          rintro e w2 ⟨rfl, hb2⟩
          replace c0 := cell_later hb2 c0
          replace c1 := cell_later hb2 c1
          replace c2 := cell_later hb2 c2
          replace c3 := cell_later hb2 c3
          replace c4 := cell_later hb2 c4
          replace c5 := cell_later hb2 c5
          replace c6 := cell_later hb2 c6
          replace c7 := cell_later hb2 c7
          go_wp2_with fail
          refine (CX.out _).mono ?_
          rintro e w1 ⟨rfl, hw1⟩
          have hw2 := hw1.symm
          subst hw2
          clear hw1
          go_wp2_with fail
          refine (CY.out _).mono ?_
          rintro e w1 ⟨rfl, hw1⟩
          have hw2 := hw1.symm
          subst hw2
          clear hw1
          go_wp2
          go_ret
          exact ⟨rfl, hbw.trans (hb2.mono hbw.size)⟩
        have CY : Hid _ := fun w' => in5_is y 0 ((n : Int) - 1) true w' (by simp; omega)
        rw [if_neg (by omega)] at hF
        subst hF
        rw [if_pos rfl] at ht2
        have HT2 : Hid _ := ht2
        clear ht2 hk
        go_wp2_with fail
        refine Calls.mono HF.out ?_
        rintro e w1 ⟨rfl, hw1⟩
        have hw2 := hw1.symm
        subst hw2
        clear hw1
        go_wp2_with fail
        refine (CH.out _).mono ?_
        rintro e w1 ⟨rfl, hw1⟩
        have hw2 := hw1.symm
        subst hw2
        clear hw1
        go_wp2_with fail
        refine (CS.out _).mono ?_
        rintro e w2 ⟨rfl, hb2⟩
        replace c0 := cell_later hb2 c0
        replace c1 := cell_later hb2 c1
        replace c2 := cell_later hb2 c2
        replace c3 := cell_later hb2 c3
        replace c4 := cell_later hb2 c4
        replace c5 := cell_later hb2 c5
        replace c6 := cell_later hb2 c6
        replace c7 := cell_later hb2 c7
        go_wp2_with fail
        refine (CX.out _).mono ?_
        rintro e w1 ⟨rfl, hw1⟩
        have hw2 := hw1.symm
        subst hw2
        clear hw1
        go_wp2_with fail
        refine (CY.out _).mono ?_
        rintro e w1 ⟨rfl, hw1⟩
        have hw2 := hw1.symm
        subst hw2
        clear hw1
        go_wp2
        go_roundw
        case rel => exact ⟨j + 1, by omega, by go_num, HT2, hbw.trans (hb2.mono hbw.size)⟩
        case measure => simp [intOf]; omega
    · have ht2 := ht.out
      rw [progGo_end (by rw [HL.out]; omega)] at ht2
      subst ht2
      go_wp2
      go_ret
      exact ⟨rfl, hbw⟩

end Go.Proofs.Ytocophekfbhfbaa

namespace Go.Proofs.Ytocophekfbhfbaa
open Go.RowKit
set_option linter.unusedVariables false
set_option linter.unusedSimpArgs false

/-- What was ahead of the place k of a set. -/
def aheadOf (xs : List Int) (k : Nat) : Int := if k = 0 then -1 else xs.getD (k - 1) 0

set_option maxHeartbeats 3200000 in
set_option maxRecDepth 20000 in
theorem l7Set_any (a : Option Addr) (n ca : Nat) (cs : List In) (b : Option Addr) (m cb : Nat) (xs : List Int) (w : World) (ha : RdR inE 8 w a n cs) (hb : Rd .i64 w b m xs) (hs : inSum cs ≤ 1048576) (h1 : n ≤ 1048576) (h2 : m ≤ 1048576) :
    Calls Try.prog 107 #[.slice a n ca, .slice b m cb] w fun e w' => e = .returned (.int .i64 (setFault cs xs)) ∧ Below w.heap.size w w' := by
  have CP := fun w' h' => l7Fault_any a n ca cs w' h' hs h1
  have hlen := ha.1
  have hlenx := hb.1
  by_cases hp : progFault cs = 0
  case neg =>
    have e : setFault cs xs = progFault cs := by unfold setFault; rw [if_pos hp]
    rw [e]
    generalize progFault cs = P at *
    have hp' : (P == 0) = false := by simpa using hp
    have HP : Hid _ := CP
    clear CP hlen hlenx
    go_enter Try.func107, Try.ntmps107
    go_wp2_with fail
    refine (HP.out _ ha).mono ?_
    rintro e w1 ⟨rfl, hb1⟩
    go_wp2
    go_ret
    exact ⟨rfl, hb1⟩
  have hn80 := (progFault_ok hp).2.1
  have hn1 := (progFault_ok hp).1
  rw [hp] at CP
  by_cases hm80 : 80 < m
  · have e : setFault cs xs = 2 := by unfold setFault; rw [if_neg (by simp [hp]), if_pos (by omega)]
    rw [e]
    have HP : Hid _ := CP
    clear CP hlen hlenx hp
    have hm80' : (80 : Int) < (m : Int) := by omega
    go_enter Try.func107, Try.ntmps107
    go_wp2_with fail
    refine (HP.out _ ha).mono ?_
    rintro e w1 ⟨rfl, hb1⟩
    go_wp2
    go_ret
    exact ⟨rfl, hb1⟩
  have hm80' : ¬ (80 : Int) < (m : Int) := by omega
  obtain ⟨R, hR⟩ : ∃ R, R = setFault cs xs := ⟨_, rfl⟩
  rw [← hR]
  have HT0 : setGo n (aheadOf xs 0) (xs.drop 0) = R := by rw [hR]; unfold setFault; rw [if_neg (by simp [hp]), if_neg (by omega), hlen]; rfl
  have HT : Hid (setGo n (aheadOf xs 0) (xs.drop 0) = R) := HT0
  have HP : Hid _ := CP
  have HX : Hid _ := hlenx
  have hn80' : n ≤ 80 := by omega
  have hn1' : 1 ≤ n := by omega
  clear hR hlen hlenx hp CP HT0 hn80 hn1
  go_enter Try.func107, Try.ntmps107
  go_wp2_with fail
  refine (HP.out _ ha).mono ?_
  rintro e w1 ⟨rfl, hb1⟩
  replace hb := hb.below hb1
  go_wp2
  go_loopw [6] (fun i wr => ∃ (k : Nat), k ≤ m ∧ i = .int .i64 k ∧ Hid (-1 ≤ aheadOf xs k ∧ (0 < k → 0 ≤ aheadOf xs k)) ∧ Hid (setGo n (aheadOf xs k) (xs.drop k) = R) ∧ Below w1.heap.size w1 wr) (fun i _ => m - (intOf i).toNat)
  case atStart => exact ⟨0, Nat.zero_le _, rfl, (⟨by simp [aheadOf], fun h => by omega⟩ : -1 ≤ aheadOf xs 0 ∧ (0 < 0 → 0 ≤ aheadOf xs 0)), HT, Below.refl _ _⟩
  case round =>
    obtain ⟨k, hk, rfl, hA, ht, hbw⟩ := hrel
    clear HT
    by_cases hlt : k < m
    · obtain ⟨b1, o1, rfl, hc1⟩ := (hb.below hbw).at hlt
      have ck := hc1 k hlt
      have ht2 := ht.out
      have hA2 := hA.out
      rw [setGo_at (by rw [HX.out]; exact hlt)] at ht2
      have hnext : aheadOf xs (k + 1) = xs.getD k 0 := by simp [aheadOf]
      have hlt' : (k : Int) < (n : Int) ∨ True := .inr trivial
      have hltm : (k : Int) < (m : Int) := by omega
      obtain ⟨J, hJ⟩ : ∃ J : Int, J = (n : Int) - 1 := ⟨_, rfl⟩
      have BW := fun q => hb1.trans ((below_drewN hbw q).mono hb1.size)
      have BD := hb1.trans (hbw.drew.mono hb1.size)
      have BN := hb1.trans (hbw.mono hb1.size)
      by_cases hI : 0 ≤ xs.getD k 0 ∧ xs.getD k 0 ≤ (n : Int) - 1
      case neg =>
        rw [if_pos (by omega)] at ht2
        subst ht2
        generalize xs.getD k 0 = X at ck hI
        have CI : Hid _ := fun w' => in5_is X 0 ((n : Int) - 1) false w' (by simpa using hI)
        clear hc1 ht hA hA2 hnext hJ
        go_wp2
        go_quiet ((go_at_call 77; exact Calls.quiet_of_same (CI.out _)))
        go_wp2
        go_ret
        exact ⟨rfl, by first | exact BN | exact BD | exact BW _⟩
      by_cases hk0 : k = 0
      · subst hk0
        rw [if_neg (by simp only [aheadOf, if_true]; omega)] at ht2
        have HT2 : Hid (setGo n (aheadOf xs (0 + 1)) (xs.drop (0 + 1)) = R) := by rw [hnext]; exact ht2
        have HA2 : Hid (-1 ≤ aheadOf xs (0 + 1) ∧ (0 < 0 + 1 → 0 ≤ aheadOf xs (0 + 1))) := (⟨by omega, fun _ => by omega⟩ : -1 ≤ aheadOf xs (0 + 1) ∧ (0 < 0 + 1 → 0 ≤ aheadOf xs (0 + 1)))
        rw [Nat.add_zero] at ck
        generalize xs.getD 0 0 = X at ck hI
        have CI : Hid _ := fun w' => in5_is X 0 ((n : Int) - 1) true w' (by simpa using hI)
        clear hc1 ht ht2 hA hA2 hnext hJ
        go_wp2
        go_quiet ((go_at_call 77; exact Calls.quiet_of_same (CI.out _)))
        go_wp2
        go_roundw
        case rel => exact ⟨0 + 1, by omega, by go_num, HA2, HT2, by first | exact hbw | exact below_drewN hbw _ | exact hbw.drew⟩
        case measure => simp [intOf]; omega
      obtain ⟨j, rfl⟩ : ∃ j, k = j + 1 := ⟨k - 1, by omega⟩
      have hcj := hc1 j (by omega)
      obtain ⟨K, hK⟩ : ∃ K : Int, K = (j : Int) + 1 := ⟨_, rfl⟩
      have hk0' : decide ((0 : Int) < (j + 1 : Nat)) = true := decide_eq_true (by omega)
      have eA : aheadOf xs (j + 1) = xs.getD j 0 := by simp [aheadOf]
      have hP0 := hA2.2 (by omega)
      rw [eA] at ht2 hP0
      by_cases hle : xs.getD (j + 1) 0 ≤ xs.getD j 0
      · rw [if_pos (.inl hle)] at ht2
        subst ht2
        generalize xs.getD (j + 1) 0 = X at ck hI hle
        generalize xs.getD j 0 = Y at hcj hle
        have CI : Hid _ := fun w' => in5_is X 0 ((n : Int) - 1) true w' (by simpa using hI)
        have hle' : decide (X ≤ Y) = true := decide_eq_true hle
        clear hc1 ht hA hA2 hnext hJ eA hP0
        go_wp2
        go_quiet ((go_at_call 77; exact Calls.quiet_of_same (CI.out _)))
        go_wp2
        go_ret
        exact ⟨rfl, by first | exact BN | exact BD | exact BW _⟩
      · rw [if_neg (by omega)] at ht2
        have HT2 : Hid (setGo n (aheadOf xs (j + 1 + 1)) (xs.drop (j + 1 + 1)) = R) := by rw [hnext]; exact ht2
        have HA2 : Hid (-1 ≤ aheadOf xs (j + 1 + 1) ∧ (0 < j + 1 + 1 → 0 ≤ aheadOf xs (j + 1 + 1))) := (⟨by omega, fun _ => by omega⟩ : -1 ≤ aheadOf xs (j + 1 + 1) ∧ (0 < j + 1 + 1 → 0 ≤ aheadOf xs (j + 1 + 1)))
        generalize xs.getD (j + 1) 0 = X at ck hI hle
        generalize xs.getD j 0 = Y at hcj hle
        have CI : Hid _ := fun w' => in5_is X 0 ((n : Int) - 1) true w' (by simpa using hI)
        have hle' : decide (X ≤ Y) = false := decide_eq_false hle
        clear hc1 ht ht2 hA hA2 hnext hJ eA hP0
        go_wp2
        go_quiet ((go_at_call 77; exact Calls.quiet_of_same (CI.out _)))
        go_wp2
        go_roundw
        case rel => exact ⟨j + 1 + 1, by omega, by go_num, HA2, HT2, by first | exact hbw | exact below_drewN hbw _ | exact hbw.drew⟩
        case measure => simp [intOf]; omega
    · have ht2 := ht.out
      rw [setGo_end (by rw [HX.out]; omega)] at ht2
      subst ht2
      go_wp2
      go_ret
      exact ⟨rfl, hb1.trans (hbw.mono hb1.size)⟩

end Go.Proofs.Ytocophekfbhfbaa