/-
  Chapter 7: the program's sets compared; sets that are built.
-/
import Derived.Test.YtaeolofailompaaRunM
import Derived.Test.YtaeolofailompaaSetB
import Derived.ChangeKeysEq
namespace Go.Proofs.Ytaeolofailompaa
open Go.RowKit
set_option linter.unusedVariables false
set_option linter.unusedSimpArgs false

theorem part80 {bs : List Bool} (hl : bs.length = 80) {i : Nat} (hi : i < 80) (w : World) : (part 4 (boolsA bs) (i * 1)).run Try.prog w = .ok (.bool (bs.getD i false)) w := by
  have ha := Try.isAgg4
  have h := boolsA_at bs i (by omega)
  simp [part, ha, h]

theorem eqItems80 {bs cs : List Bool} (hl : bs.length = 80) (hc : cs.length = 80) (w : World) : ∀ is : List Nat, (∀ i ∈ is, i < 80) → (Op.eqItems (9998 + 1) 4 1 (boolsA bs) (boolsA cs) is).run Try.prog w = .ok (is.all fun i => bs.getD i false == cs.getD i false) w
  | [], _ => by simp [Op.eqItems]
  | i :: is, h => by
    have ih := eqItems80 hl hc w is (fun j hj => h j (by simp [hj]))
    have p1 := part80 hl (h i (by simp)) w
    have p2 := part80 hc (h i (by simp)) w
    have p3 := run_equalIn_bool (P := Try.prog) w 9998 4 (bs.getD i false) (cs.getD i false) Try.underlying4
    simp only [Op.eqItems, Sem.run_bind, p1, p2, p3, Result.andThen_ok]
    cases hb : (bs.getD i false == cs.getD i false)
    · simp
      intro h0
      simp at hb
      exact absurd h0 hb
    · simp at hb
      simp [ih, hb]

theorem infoB0 : ∃ i, Try.prog.info? 4 = some i := by
  cases h : Try.prog.info? 4 with
  | none => have : (Try.prog.info? 4).isSome = true := by kernel_rfl
            rw [h] at this
            cases this
  | some i => exact ⟨i, rfl⟩

theorem all_eq {bs cs : List Bool} (hl : bs.length = 80) (hc : cs.length = 80) : ((List.range 80).all fun i => bs.getD i false == cs.getD i false) = decide (bs = cs) := by
  rw [Bool.eq_iff_iff, List.all_eq_true, decide_eq_true_eq]
  constructor
  · intro h
    apply List.ext_getElem (by omega)
    intro i h1 h2
    have := h i (by simp; omega)
    simpa [List.getD_eq_getElem?_getD, h1, h2] using this
  · rintro rfl i _
    simp

/-- Go's '!=' at sets. -/
theorem neq80 {bs cs : List Bool} (hl : bs.length = 80) (hc : cs.length = 80) (w : World) :
    (binOp .neq 167 (.agg (boolsA bs)) (.agg (boolsA cs))).run Try.prog w = .ok (.bool (!decide (bs = cs))) w := by
  obtain ⟨i, hi⟩ := infoB0
  have hce : Try.prog.cellsOf 4 = 1 := by kernel_rfl
  rw [run_neq_struct, show (10000 : Nat) = 9999 + 1 from rfl, run_equalIn_array w 9999 _ _ under80 hi, hce, show (9999 : Nat) = 9998 + 1 from rfl, eqItems80 hl hc w _ (fun i hi => by simpa using hi), all_eq hl hc]
  rfl

theorem guard80 (op : BinOp) (a b : Operand) (x y : Array Value) (w : World) : (eqGuard op 167 a b (.agg x) (.agg y)).run Try.prog w = .ok () w := run_eqGuard_agg w op 167 a b x y (by kernel_rfl)

theorem built0 : (Try.prog.built 167 []) = some (boolsA (List.replicate 80 false)) := by kernel_rfl
theorem built1 : (Try.prog.built 167 [(0, Value.bool true)]) = some (boolsA first80) := by kernel_rfl
end Go.Proofs.Ytaeolofailompaa
