/-
  Chapter 7: the program's ProgFault.
-/
import Derived.Test.YtocophekfbhfbaaInstM
import Derived.Test.YtocophekfbhfbaaNode6d
namespace Go.Proofs.Ytocophekfbhfbaa
open Go.RowKit
set_option linter.unusedVariables false
set_option linter.unusedSimpArgs false

/-- Go's '!=' at an instruction and nothing. -/
theorem neqInst0 (o k c : Int) (s : ByteArray) (l r x y : Int) (w : World) :
    (binOp .neq 252 (.agg #[.int .i64 o, .int .i64 k, .int .i64 c, .string s, .int .i64 l, .int .i64 r, .int .i64 x, .int .i64 y]) (.agg #[.int .i64 0, .int .i64 0, .int .i64 0, .string ⟨#[]⟩, .int .i64 0, .int .i64 0, .int .i64 0, .int .i64 0])).run Try.prog w = .ok (.bool (!decide ((⟨o, k, c, s, l, r, x, y⟩ : In) = in0))) w := by
  have u3 := Try.underlying2
  have a3 := Try.isAgg2
  have z3 := Try.sizeOf2
  have u9 := Try.underlying9
  have a9 := Try.isAgg9
  have z9 := Try.sizeOf9
  have un := Try.underlying151
  have an := Try.isAgg151
  have zn := Try.sizeOf151
  have hS : Try.prog.underlying 252 = some (.struct (Try.prog.fieldsOf 252)) := by kernel_rfl
  have hN : Try.prog.underlying 151 = some (.struct (Try.prog.fieldsOf 151)) := by kernel_rfl
  have hp : Try.prog.stoodInHeld 252 = false := by kernel_rfl
  have hq : Try.prog.stoodInHeld 151 = false := by kernel_rfl
  have hnode := fun (u v : Array Value) => run_equalIn_agg w 9998 151 u v hN hq
  rw [run_neq_struct, show (10000 : Nat) = 9999 + 1 from rfl, run_equalIn_agg w 9999 252 _ _ hS hp]
  simp only [Program.fieldsOf, Try.underlying252]
  go_simp
  have hs0 : s.toList = [] ↔ s = ⟨#[]⟩ := by rw [← baList]; simp [ByteArray.toList_eq]
  by_cases h1 : o = 0 <;> by_cases h2 : k = 0 <;> by_cases h3 : c = 0 <;> by_cases h4 : s = ⟨#[]⟩ <;> by_cases h5 : l = 0 <;> by_cases h6 : r = 0 <;> by_cases h7 : x = 0 <;> by_cases h8 : y = 0 <;> simp [h1, h2, h3, h4, h5, h6, h7, h8, inEq_iff, in0, hs0, baList]
theorem hasEq1 (k c : Int) (s : ByteArray) (l r x y : Int) : (!decide ((⟨0, 0, 0, ⟨#[]⟩, 0, 0, 0, y⟩ : In) = in0)) = !decide (HasI ⟨1, k, c, s, l, r, x, y⟩) := by
  congr 1
  rw [decide_eq_decide]
  simp only [inEq_iff, in0, HasI, In.nd, nd0, ndEq_iff]
  first | omega | (simp; done) | (constructor <;> intro h <;> simp_all)

theorem hasEq2 (k c : Int) (s : ByteArray) (l r x y : Int) : (!decide ((⟨0, k, c, s, l, r, 0, 0⟩ : In) = in0)) = !decide (HasI ⟨2, k, c, s, l, r, x, y⟩) := by
  congr 1
  rw [decide_eq_decide]
  simp only [inEq_iff, in0, HasI, In.nd, nd0, ndEq_iff]
  first | omega | (simp; done) | (constructor <;> intro h <;> simp_all)

theorem hasEq3 (k c : Int) (s : ByteArray) (l r x y : Int) : (!decide ((⟨0, k, c, s, l, r, 0, y⟩ : In) = in0)) = !decide (HasI ⟨3, k, c, s, l, r, x, y⟩) := by
  congr 1
  rw [decide_eq_decide]
  simp only [inEq_iff, in0, HasI, In.nd, nd0, ndEq_iff]
  first | omega | (simp; done) | (constructor <;> intro h <;> simp_all)

theorem hasEq4 (k c : Int) (s : ByteArray) (l r x y : Int) : (!decide ((⟨0, k, c, s, l, r, 0, y⟩ : In) = in0)) = !decide (HasI ⟨4, k, c, s, l, r, x, y⟩) := by
  congr 1
  rw [decide_eq_decide]
  simp only [inEq_iff, in0, HasI, In.nd, nd0, ndEq_iff]
  first | omega | (simp; done) | (constructor <;> intro h <;> simp_all)

theorem hasEq5 (k c : Int) (s : ByteArray) (l r x y : Int) : (!decide ((⟨0, k, c, s, l, r, 0, y⟩ : In) = in0)) = !decide (HasI ⟨5, k, c, s, l, r, x, y⟩) := by
  congr 1
  rw [decide_eq_decide]
  simp only [inEq_iff, in0, HasI, In.nd, nd0, ndEq_iff]
  first | omega | (simp; done) | (constructor <;> intro h <;> simp_all)

theorem hasEq6 (k c : Int) (s : ByteArray) (l r x y : Int) : (!decide ((⟨0, k, c, s, l, r, x, y⟩ : In) = in0)) = !decide (HasI ⟨6, k, c, s, l, r, x, y⟩) := by
  congr 1
  rw [decide_eq_decide]
  simp only [inEq_iff, in0, HasI, In.nd, nd0, ndEq_iff]
  first | omega | (simp; done) | (constructor <;> intro h <;> simp_all)

theorem guardInst (op : BinOp) (a b : Operand) (x y : Array Value) (w : World) : (eqGuard op 252 a b (.agg x) (.agg y)).run Try.prog w = .ok () w := run_eqGuard_agg w op 252 a b x y (by kernel_rfl)

set_option maxHeartbeats 1600000 in
set_option maxRecDepth 20000 in
theorem hasTooMuchI_any (i : In) (w : World) :
    Calls Try.prog 228 #[.agg #[.int .i64 i.o, .int .i64 i.k, .int .i64 i.c, .string i.s, .int .i64 i.l, .int .i64 i.r, .int .i64 i.x, .int .i64 i.y]] w fun e w' => e = .returned (.bool (!decide (HasI i))) ∧ Below w.heap.size w w' := by
  obtain ⟨o, k, c, s, l, r, x, y⟩ := i
  simp only
  obtain ⟨R, hR⟩ : ∃ R, R = !decide (HasI ⟨o, k, c, s, l, r, x, y⟩) := ⟨_, rfl⟩
  rw [← hR]
  have HR : Hid (R = !decide (HasI ⟨o, k, c, s, l, r, x, y⟩)) := hR
  clear hR
  have hne := neqInst0
  have hg := guardInst
  have B1 : ∀ o, Below w.heap.size w (w.alloc o) := fun o => (Below.refl _ _).alloc (Nat.le_refl _) o
  have S1 : ∀ (W : World) (i : Nat) (x : Value), Below w.heap.size w W → Below w.heap.size w (W.setCell ⟨w.heap.size, i, none⟩ x) := fun W i x h => h.setCell (Nat.le_refl _) x
  by_cases hI : 1 ≤ o ∧ o ≤ 6
  case neg =>
    have hf : R = true := by rw [HR.out, decide_eq_false (fun h => hI h.1)]; rfl
    rw [hf]
    have e1 : (o == 1) = false := by simp; omega
    have e2 : (o == 2) = false := by simp; omega
    have e3 : (o == 3) = false := by simp; omega
    have e4 : (o == 4) = false := by simp; omega
    have e5 : (o == 5) = false := by simp; omega
    have e6 : (o == 6) = false := by simp; omega
    clear hI
    go_enter Try.func228, Try.ntmps228
    go_wp2
    go_ret
    refine ⟨rfl, ?_⟩
    repeat first | exact B1 _ | refine S1 _ _ _ ?_
  have hcls : o = 1 ∨ o = 2 ∨ o = 3 ∨ o = 4 ∨ o = 5 ∨ o = 6 := by omega
  clear hI
  rcases hcls with rfl | rfl | rfl | rfl | rfl | rfl
  · go_enter Try.func228, Try.ntmps228
    go_wp2
    go_ret
    refine ⟨ret_bool ?_, ?_⟩
    · exact (hasEq1 k c s l r x y).trans HR.out.symm
    repeat first | exact B1 _ | refine S1 _ _ _ ?_
  · go_enter Try.func228, Try.ntmps228
    go_wp2
    go_ret
    refine ⟨ret_bool ?_, ?_⟩
    · exact (hasEq2 k c s l r x y).trans HR.out.symm
    repeat first | exact B1 _ | refine S1 _ _ _ ?_
  · go_enter Try.func228, Try.ntmps228
    go_wp2
    go_ret
    refine ⟨ret_bool ?_, ?_⟩
    · exact (hasEq3 k c s l r x y).trans HR.out.symm
    repeat first | exact B1 _ | refine S1 _ _ _ ?_
  · go_enter Try.func228, Try.ntmps228
    go_wp2
    go_ret
    refine ⟨ret_bool ?_, ?_⟩
    · exact (hasEq4 k c s l r x y).trans HR.out.symm
    repeat first | exact B1 _ | refine S1 _ _ _ ?_
  · go_enter Try.func228, Try.ntmps228
    go_wp2
    go_ret
    refine ⟨ret_bool ?_, ?_⟩
    · exact (hasEq5 k c s l r x y).trans HR.out.symm
    repeat first | exact B1 _ | refine S1 _ _ _ ?_
  · go_enter Try.func228, Try.ntmps228
    go_wp2
    go_ret
    refine ⟨ret_bool ?_, ?_⟩
    · exact (hasEq6 k c s l r x y).trans HR.out.symm
    repeat first | exact B1 _ | refine S1 _ _ _ ?_

theorem standsForByte_any (n : Nd) (w : World) :
    Calls Try.prog 229 #[.agg #[.int .i64 n.k, .int .i64 n.c, .string n.s, .int .i64 n.l, .int .i64 n.r]] w fun e w' => e = .returned (.bool (decide (2 ≤ n.k ∧ n.k ≤ 5))) ∧ Below w.heap.size w w' := by
  obtain ⟨k, c, s, l, r⟩ := n
  simp only
  have B1 : ∀ o, Below w.heap.size w (w.alloc o) := fun o => (Below.refl _ _).alloc (Nat.le_refl _) o
  by_cases h2 : 2 ≤ k
  · by_cases h5 : k ≤ 5
    · rw [decide_eq_true ⟨h2, h5⟩]
      go_enter Try.func229, Try.ntmps229
      go_wp2
      go_ret
      exact ⟨ret_bool (by simp [*]), B1 _⟩
    · rw [decide_eq_false (fun h => h5 h.2)]
      go_enter Try.func229, Try.ntmps229
      go_wp2
      go_ret
      exact ⟨ret_bool (by simp [*]), B1 _⟩
  · rw [decide_eq_false (fun h => h2 h.1)]
    go_enter Try.func229, Try.ntmps229
    go_wp2
    go_ret
    exact ⟨ret_bool (by simp [*]), B1 _⟩

end Go.Proofs.Ytocophekfbhfbaa
