/-
  Chapter 10's specification: the fault of a spot.
-/
import Derived.Test.YtjgmkcmlkffjlaaDoorRow5
import Derived.Laws.StructEq
namespace Go.Proofs.YtjgmkcmlkffjlaaDoor
open Go.RowKit
set_option linter.unusedVariables false
set_option linter.unusedSimpArgs false

/-- Go's '==' and '!=' at spots. -/
theorem spotEq (op : BinOp) (x y p q : Int) (w : World) : (Op.equalIn 10000 29 (.agg #[.int .i64 x, .int .i64 y]) (.agg #[.int .i64 p, .int .i64 q])).run Tryd.prog w = .ok (decide (x = p ∧ y = q)) w := by
  have u3 := Tryd.underlying2
  have a3 := Tryd.isAgg2
  have z3 := Tryd.sizeOf2
  have hS : Tryd.prog.underlying 29 = some (.struct (Tryd.prog.fieldsOf 29)) := by kernel_rfl
  have hp : Tryd.prog.stoodInHeld 29 = false := by kernel_rfl
  rw [show (10000 : Nat) = 9999 + 1 from rfl, run_equalIn_agg w 9999 29 _ _ hS hp]
  simp only [Program.fieldsOf, Tryd.underlying29]
  go_simp
  by_cases h1 : x = p <;> by_cases h2 : y = q <;> simp [h1, h2]
theorem neqSpot (x y p q : Int) (w : World) : (binOp .neq 29 (.agg #[.int .i64 x, .int .i64 y]) (.agg #[.int .i64 p, .int .i64 q])).run Tryd.prog w = .ok (.bool (decide (¬ (x = p ∧ y = q)))) w := by
  rw [run_neq_struct, spotEq .neq]
  by_cases h : x = p ∧ y = q
  · rw [decide_eq_true h, decide_eq_false (fun k => k h)]; rfl
  · rw [decide_eq_false h, decide_eq_true h]; rfl
theorem eqlSpot (x y p q : Int) (w : World) : (binOp .eql 29 (.agg #[.int .i64 x, .int .i64 y]) (.agg #[.int .i64 p, .int .i64 q])).run Tryd.prog w = .ok (.bool (decide (x = p ∧ y = q))) w := by
  rw [run_eql_struct, spotEq .eql]; rfl
theorem guardSpot (op : BinOp) (a b : Operand) (x y : Array Value) (w : World) : (eqGuard op 29 a b (.agg x) (.agg y)).run Tryd.prog w = .ok () w := run_eqGuard_agg w op 29 a b x y (by kernel_rfl)

/-- the fault of a spot among rows -/
def spIn (cs : List Nat) (L R : Int) : Int := if cs = [] then (if L = 0 ∧ R = 0 then 0 else 4) else if 0 ≤ L ∧ L < cs.length ∧ 0 ≤ R ∧ R < (cs.getD L.toNat 0 : Nat) then 0 else 3

set_option maxHeartbeats 3200000 in
theorem l10SpotIn_any (a : Option Addr) (n ca : Nat) (cs : List Nat) (L R : Int) (w : World) (ha : Rd .i64 w a n (natsI cs)) (hn : n ≤ 1000000) (hc : ∀ c ∈ cs, c ≤ 1000000) :
    Calls Tryd.prog 36 #[.slice a n ca, .agg #[.int .i64 L, .int .i64 R]] w fun e w' => e = .returned (.int .i64 (spIn cs L R)) ∧ Below w.heap.size w w' := by
  have hlen := ha.1
  rw [natsI_len] at hlen
  have b1 : ∀ o, Below w.heap.size w (w.alloc o) := fun o => (Below.refl _ _).alloc (Nat.le_refl _) o
  by_cases h0 : cs = []
  · subst h0
    simp at hlen
    subst hlen
    have hg := guardSpot
    by_cases hz : L = 0 ∧ R = 0
    · have hn : ∀ w, (binOp .neq 29 (.agg #[.int .i64 L, .int .i64 R]) (.agg #[.int .i64 0, .int .i64 0])).run Tryd.prog w = .ok (.bool false) w := fun w => by rw [neqSpot, decide_eq_false (fun k => k hz)]
      have e1 : spIn [] L R = 0 := by unfold spIn; rw [if_pos rfl, if_pos hz]
      rw [e1]
      clear hz
      go_enter Tryd.func36, Tryd.ntmps36
      go_wp2
      go_ret
      exact ⟨rfl, b1 _⟩
    · have hn : ∀ w, (binOp .neq 29 (.agg #[.int .i64 L, .int .i64 R]) (.agg #[.int .i64 0, .int .i64 0])).run Tryd.prog w = .ok (.bool true) w := fun w => by rw [neqSpot, decide_eq_true hz]
      have e1 : spIn [] L R = 4 := by unfold spIn; rw [if_pos rfl, if_neg hz]
      rw [e1]
      clear hz
      go_enter Tryd.func36, Tryd.ntmps36
      go_wp2
      go_ret
      exact ⟨rfl, b1 _⟩
  · have hn0 : 0 < n := by
      rw [← hlen]; exact List.length_pos_iff.2 h0
    have hne : ¬ (n : Int) = 0 := by omega
    have IN := fun (x y z : Int) w => l1In_any x y z w
    by_cases hL : 0 ≤ L ∧ L ≤ (n : Int) - 1
    · obtain ⟨l, rfl⟩ : ∃ l : Nat, L = (l : Int) := ⟨L.toNat, by omega⟩
      obtain ⟨hL1, hL2⟩ := hL
      obtain ⟨B, o, rfl, hcell⟩ := ha.at (show l < n by omega)
      have hk := hcell l (by omega)
      have hgd : (natsI cs).getD l 0 = (cs.getD l 0 : Nat) := by
        unfold natsI; rw [List.getD_eq_getElem?_getD, List.getD_eq_getElem?_getD, List.getElem?_map]
        rw [List.getElem?_eq_getElem (by omega)]; rfl
      have hcm : cs.getD l 0 ≤ 1000000 := by
        rw [List.getD_eq_getElem?_getD, List.getElem?_eq_getElem (by omega)]
        exact hc _ (List.getElem_mem _)
      rw [hgd] at hk
      have hsp : spIn cs l R = if 0 ≤ R ∧ R ≤ ((cs.getD l 0 : Nat) : Int) - 1 then 0 else 3 := by
        unfold spIn; rw [if_neg h0, Int.toNat_natCast]; simp only [hlen]
        by_cases h : 0 ≤ R ∧ R ≤ ((cs.getD l 0 : Nat) : Int) - 1
        · rw [if_pos (by omega), if_pos h]
        · rw [if_neg (by omega), if_neg h]
      rw [hsp]
      generalize cs.getD l 0 = K at *
      have hk2 := cell_later (b1 (.cells #[.int .i64 (l : Int), .int .i64 R] 29)) hk
      have HIN : Hid _ := IN
      clear hsp hcell hgd ha hk IN
      by_cases hR : 0 ≤ R ∧ R ≤ (K : Int) - 1
      all_goals
        first | rw [if_pos hR] | rw [if_neg hR]
        go_enter Tryd.func36, Tryd.ntmps36
        go_wp2
        go_quiet ((go_at_call 20; exact Calls.quiet_of_same (HIN.out _ _ _ _)))
        go_wp2
        go_ret
        exact ⟨rfl, below_drewN (b1 _) _⟩
    · have hsp : spIn cs L R = 3 := by unfold spIn; rw [if_neg h0, if_neg (by omega)]
      rw [hsp]
      have HIN : Hid _ := IN
      clear hsp ha IN
      go_enter Tryd.func36, Tryd.ntmps36
      go_wp2
      go_quiet ((go_at_call 20; exact Calls.quiet_of_same (HIN.out _ _ _ _)))
      go_wp2
      go_ret
      exact ⟨rfl, below_drewN (b1 _) _⟩

/-- the fault of a file or a layout -/
def spBase (n : Nat) (W : Int) (C : Bool) (S : Int) : Int := if 400 < n then 2 else lyF W C S

set_option maxHeartbeats 800000 in
theorem l10Base_any (b b2 : Nat) (a : Option Addr) (n ca : Nat) (W S : Int) (C : Bool) (w : World) (hc : w.cell? ⟨b, 0, none⟩ = some (.slice a n ca)) (hn : n ≤ 1073741824)
    (c0 : w.cell? ⟨b2, 0, none⟩ = some (.int .i64 W)) (c1 : w.cell? ⟨b2, 1, none⟩ = some (.bool C)) (c2 : w.cell? ⟨b2, 2, none⟩ = some (.int .i64 S)) :
    Calls Tryd.prog 32 #[.pointer (some ⟨b, 0, none⟩), .pointer (some ⟨b2, 0, none⟩)] w fun e w' => e = .returned (.int .i64 (spBase n W C S)) ∧ w' = w := by
  by_cases hf : 400 < n
  · have e1 : spBase n W C S = 2 := by unfold spBase; rw [if_pos hf]
    have FF := l2Fault_any b a n ca w hc hn
    rw [show fFault n = 2 by unfold fFault; rw [if_pos hf]] at FF
    have HF : Hid _ := FF
    rw [e1]
    clear e1 FF
    go_enter Tryd.func32, Tryd.ntmps32
    go_wp2_with fail
    refine Calls.mono HF.out ?_
    rintro e w1 ⟨rfl, rfl⟩
    go_wp2
    go_ret
    exact ⟨rfl, rfl⟩
  · have e1 : spBase n W C S = lyF W C S := by unfold spBase; rw [if_neg hf]
    have FF := l2Fault_any b a n ca w hc hn
    rw [show fFault n = 0 by unfold fFault; rw [if_neg hf]] at FF
    have HF : Hid _ := FF
    rw [e1]
    clear e1 FF
    go_enter Tryd.func32, Tryd.ntmps32
    go_wp2_with fail
    refine Calls.mono HF.out ?_
    rintro e w1 ⟨rfl, rfl⟩
    go_wp2_with fail
    refine Calls.mono (l10Fault_any b2 W S C _ c0 c1 c2) ?_
    rintro e w1 ⟨rfl, rfl⟩
    go_wp2
    go_ret
    exact ⟨rfl, rfl⟩

end Go.Proofs.YtjgmkcmlkffjlaaDoor
