/-
  Contracts of DecodeAt: the specification's and the program's.
-/
import Derived.Test.YtjgmkcmlkffjlaaDoorDec1
import Derived.Test.YtjgmkcmlkffjlaaDoorDec2
namespace Go.Proofs.YtjgmkcmlkffjlaaDoor
open Go.RowKit
set_option linter.unusedVariables false

/-- What DecodeAt tells: the code, the character, how many bytes. -/
def decCode (xs : List Int) (i : Int) : Int := if 0 ≤ i ∧ i < xs.length then (if (dec xs i.toNat).2 = 0 then 5 else 0) else 3
def decChar (xs : List Int) (i : Int) : Int := if 0 ≤ i ∧ i < xs.length then (dec xs i.toNat).1 else 0
def decUsed (xs : List Int) (i : Int) : Int := if 0 ≤ i ∧ i < xs.length then (dec xs i.toNat).2 else 0
theorem dec_none {xs : List Int} {i : Nat} (h : (dec xs i).2 = 0) : (dec xs i).1 = 0 := by
  unfold dec dec3 at *
  split at h
  · simp at h
  · split at h
    · simp at h
    · split at h
      · simp at h
      · rename_i h1 h2 h3
        rw [if_neg h1, if_neg h2, if_neg h3]

/-- The answer, as a value. -/
def decVal (xs : List Int) (i : Int) : Value := .agg #[.int .i64 (decCode xs i), .int .i64 (decChar xs i), .int .i64 (decUsed xs i)]

theorem catch_panicking (b : Nat) (x0 x1 x2 : Int) (u : TypeId) (pv : Value) (older : List PanicEntry) (w : World)
    (h0 : w.cell? ⟨b, 0, none⟩ = some (.int .i64 x0)) (h1 : w.cell? ⟨b, 1, none⟩ = some (.int .i64 x1)) (h2 : w.cell? ⟨b, 2, none⟩ = some (.int .i64 x2))
    (z0 : w.frozen? ⟨b, 0, none⟩ = false) (z1 : w.frozen? ⟨b, 1, none⟩ = false) (z2 : w.frozen? ⟨b, 2, none⟩ = false) :
    CallsD Tryd.prog 80 #[.pointer (some ⟨b, 0, none⟩)] (.panicking ({ v := .iface u pv, recovered := false } :: older)) w fun e u' w' =>
      e = .returned (.tuple #[]) ∧ u' = .panicking ({ v := .iface u pv, recovered := true } :: older) ∧ w' = ((w.setCell ⟨b, 0, none⟩ (.int .i64 5)).setCell ⟨b, 1, none⟩ (.int .i64 0)).setCell ⟨b, 2, none⟩ (.int .i64 0) := by
  refine callsD_of_wpS Tryd.func80 rfl fun c₀ cs hu => ?_
  apply wpS_seq
  apply wpS_region
  simp [wpOpsS, go_sem, recoverD, hu, Tryd.ntmps80, Exit.thenS]
  refine wpS_cond (t := true) (by simp [Act.eval, Array.replicate]) ?_
  simp only [if_true]
  refine wpS_of_wp ?_
  go_wp2
  simp [bodyPostS, results, Tryd.results80]

theorem catch_idle (p : Addr) (w : World) :
    CallsD Tryd.prog 80 #[.pointer (some p)] .returning w fun e u' w' => e = .returned (.tuple #[]) ∧ u' = .returning ∧ w' = w := by
  refine callsD_of_wpS Tryd.func80 rfl fun c₀ cs hu => ?_
  apply wpS_seq
  apply wpS_region
  simp [wpOpsS, go_sem, recoverD, hu, Tryd.ntmps80, Exit.thenS]
  refine wpS_cond (t := false) (by simp [Act.eval, Array.replicate]) ?_
  simp only [Bool.false_eq_true, if_false]
  refine wpS_of_wp (wp_skip ?_)
  cases c₀
  simp_all [bodyPostS, results, Tryd.results80]

set_option maxHeartbeats 800000 in
theorem implDecodeAt_any (a : Option Addr) (n ca : Nat) (I : Int) (xs : List Int) (w : World) (ha : Rd .u8 w a n xs) (hB : Bytes xs) (h1 : n ≤ 1073741824) (hca : n ≤ ca) (hcm : ca ≤ maxLen) :
    Calls Tryd.prog 75 #[.slice a n ca, .int .i64 I] w fun e w' => e = .returned (decVal xs I) ∧ Below w.heap.size w w' := by
  have B1 : ∀ o1, Below w.heap.size w (w.alloc o1) := fun o1 => (Below.refl _ _).alloc (Nat.le_refl _) o1
  have hmf : ∀ (fn : Fn) (first cap : Array Value) (w : World), (Instr.makeFunc fn first cap).run Tryd.prog w = .ok (.func fn first cap) w := fun _ _ _ _ => rfl
  unfold maxLen at hcm
  by_cases hI : 0 ≤ I ∧ I < n
  · have e0 : decVal xs I = .agg #[.int .i64 (if (dec xs I.toNat).2 = 0 then 5 else 0), .int .i64 (dec xs I.toNat).1, .int .i64 (dec xs I.toNat).2] := by
      unfold decVal decCode decChar decUsed; rw [ha.1, if_pos hI, if_pos hI, if_pos hI]
    rw [e0]
    clear e0
    obtain ⟨i, rfl⟩ := Int.eq_ofNat_of_zero_le hI.1
    obtain ⟨_, hI2⟩ := hI
    rw [Int.toNat_natCast]
    have hno := dec_none (xs := xs) (i := i)
    obtain ⟨b, o, rfl, hc⟩ := ha.at (show i < n by omega)
    have hrd : Rd .u8 w (some ⟨b, o + i, none⟩) (n - i) (xs.drop i) := by
      refine ⟨by rw [List.length_drop, ha.1], .inr ⟨b, o + i, rfl, fun j hj => ?_⟩⟩
      have := hc (i + j) (by omega)
      rw [Nat.add_assoc, this]
      simp [List.getD_eq_getElem?_getD]
    have D := fun o1 => readCharacter_any b (o + i) (n - i) (ca - i) (xs.drop i) _ (hrd.below (B1 o1)) (hB.drop i) (by omega) (by omega)
    have hbd := dec_bd hB i
    rw [dec_drop] at D
    generalize dec xs i = d at *
    obtain ⟨c, u⟩ := d
    simp only at *
    have HD : Hid _ := D
    clear D hrd hc ha hB
    obtain ⟨b1, b2, b3, b4⟩ := hbd
    have hI3 : (i : Int) < (n : Int) := by omega
    have hne : ¬ ca = i := by omega
    by_cases hu : u = 0
    · have hc := hno hu
      clear hno
      subst hu
      subst hc
      go_enter_defers Tryd.func75, Tryd.ntmps75
      go_wp2_with fail
      refine Calls.mono (HD.out _) ?_
      rintro e w1 ⟨he, rfl⟩
      unfold ReadEnd at he
      rw [if_pos rfl] at he
      obtain ⟨u, pv, rfl⟩ := he
      go_wp2
      refine leaves_cons (f := 80) (args := #[.pointer (some ⟨w.heap.size, 0, none⟩)]) (by simp) (by simp [go_sem]) ?_
      refine (catch_panicking w.heap.size 0 0 0 u pv [] _ ?_ ?_ ?_ ?_ ?_ ?_).mono ?_
      · simp [go_sem]
      · simp [go_sem]
      · simp [go_sem]
      · simp [go_sem]
      · simp [go_sem]
      · simp [go_sem]
      rintro e u' w'' ⟨rfl, rfl, rfl⟩
      simp [Leaves, settle, results, Tryd.results75, go_sem]
      exact B1 _
    · have e5 : (if u = 0 then (5 : Int) else 0) = 0 := if_neg hu
      rw [e5]
      clear e5 hno
      go_enter_defers Tryd.func75, Tryd.ntmps75
      go_wp2_with fail
      refine Calls.mono (HD.out _) ?_
      rintro e w1 ⟨he, rfl⟩
      unfold ReadEnd at he
      rw [if_neg hu] at he
      subst he
      go_wp2
      refine leaves_cons (f := 80) (args := #[.pointer (some ⟨w.heap.size, 0, none⟩)]) (by simp) (by simp [go_sem]) ?_
      refine (catch_idle ⟨w.heap.size, 0, none⟩ _).mono ?_
      rintro e u' w'' ⟨rfl, rfl, rfl⟩
      simp [Leaves, settle, results, Tryd.results75, go_sem]
      exact B1 _
  · have e0 : decVal xs I = .agg #[.int .i64 3, .int .i64 0, .int .i64 0] := by
      unfold decVal decCode decChar decUsed; rw [ha.1, if_neg hI, if_neg hI, if_neg hI]
    rw [e0]
    clear e0
    by_cases h0 : 0 ≤ I
    · have h2 : (n : Int) ≤ I := by omega
      go_enter_defers Tryd.func75, Tryd.ntmps75
      go_wp2
      simp [bodyPostD, Leaves, results, Tryd.results75, go_sem]
      exact B1 _
    · go_enter_defers Tryd.func75, Tryd.ntmps75
      go_wp2
      simp [bodyPostD, Leaves, results, Tryd.results75, go_sem]
      exact B1 _
end Go.Proofs.YtjgmkcmlkffjlaaDoor
