/-
  Floats of whole numbers: what a number is told as, when two are told as the same, and back. It speaks of no program.
-/
import Derived.Laws.Cover2
import Derived.Laws.FloatArith
namespace Go.Proofs.YtjgmkcmlkffjlaaDoor
set_option linter.unusedVariables false
set_option linter.unusedSimpArgs false

/-- the datum stands for the whole number v, at a place that is not above nought -/
def Val (d : Ieee.Datum) (v : Int) : Prop :=
  ∃ s m i, d = .number s m i ∧ i ≤ 0 ∧ Ieee.signed s m 0 = v * 2 ^ (-i).toNat

theorem signed_up (s : Bool) (m k : Nat) : Ieee.signed s m k = Ieee.signed s m 0 * 2 ^ k := by
  unfold Ieee.signed
  cases s <;> simp [Nat.shiftLeft_eq, Int.neg_mul]

theorem cmp_mul (v u K : Int) (hK : 0 < K) : compare (v * K) (u * K) = compare v u := by
  show compareOfLessAndEq _ _ = compareOfLessAndEq _ _
  unfold compareOfLessAndEq
  have h1 : (v * K < u * K) ↔ v < u := ⟨fun h => Int.lt_of_mul_lt_mul_right h (by omega), fun h => Int.mul_lt_mul_of_pos_right h hK⟩
  have h2 : (v * K = u * K) ↔ v = u := ⟨fun h => Int.eq_of_mul_eq_mul_right (by omega) h, fun h => by rw [h]⟩
  simp only [h1, h2]

theorem order_val {d e : Ieee.Datum} {v u : Int} (hd : Val d v) (he : Val e u) :
    d.order e = some (compare v u) := by
  obtain ⟨s, m, i, rfl, hi, hv⟩ := hd
  obtain ⟨t, n, j, rfl, hj, hu⟩ := he
  show some _ = _
  rw [signed_up s m, signed_up t n, hv, hu, Int.mul_assoc, Int.mul_assoc, ← Int.pow_add, ← Int.pow_add]
  have e1 : (-i).toNat + (i - min i j).toNat = (-(min i j)).toNat := by omega
  have e2 : (-j).toNat + (j - min i j).toNat = (-(min i j)).toNat := by omega
  rw [e1, e2, cmp_mul _ _ _ (Int.pow_pos (by omega))]

theorem cut0 (neg : Bool) (n : Nat) : Ieee.Toward.even.cut neg n 0 = n := by
  unfold Ieee.Toward.cut
  simp [Nat.mod_one]

theorem near_small (neg : Bool) (m : Nat) (h0 : m ≠ 0) (h : m < 2 ^ 53) :
    ∃ k, k ≤ 52 ∧ 2 ^ 52 ≤ m <<< k ∧ m <<< k < 2 ^ 53 ∧
      Ieee.double.read (Ieee.double.nearest neg m 0) = .number neg (m <<< k) (-(k : Int)) := by
  have hl : m.log2 ≤ 52 := by
    have := (Nat.log2_lt h0 (k := 53)).2 h; omega
  have hlo : 2 ^ m.log2 ≤ m := Nat.log2_self_le h0
  have hhi : m < 2 ^ (m.log2 + 1) := Nat.lt_log2_self
  refine ⟨52 - m.log2, by omega, ?_, ?_, ?_⟩
  · rw [Nat.shiftLeft_eq]
    calc 2 ^ 52 = 2 ^ m.log2 * 2 ^ (52 - m.log2) := by rw [← Nat.pow_add]; congr 1; omega
      _ ≤ _ := Nat.mul_le_mul_right _ hlo
  · rw [Nat.shiftLeft_eq]
    calc m * 2 ^ (52 - m.log2) < 2 ^ (m.log2 + 1) * 2 ^ (52 - m.log2) := Nat.mul_lt_mul_of_pos_right hhi (Nat.pow_pos (by omega))
      _ = 2 ^ 53 := by rw [← Nat.pow_add]; congr 1; omega
  · have klo : 2 ^ 52 ≤ m <<< (52 - m.log2) := by
      rw [Nat.shiftLeft_eq]
      calc 2 ^ 52 = 2 ^ m.log2 * 2 ^ (52 - m.log2) := by rw [← Nat.pow_add]; congr 1; omega
        _ ≤ _ := Nat.mul_le_mul_right _ hlo
    have khi : m <<< (52 - m.log2) < 2 ^ 53 := by
      rw [Nat.shiftLeft_eq]
      calc m * 2 ^ (52 - m.log2) < 2 ^ (m.log2 + 1) * 2 ^ (52 - m.log2) := Nat.mul_lt_mul_of_pos_right hhi (Nat.pow_pos (by omega))
        _ = 2 ^ 53 := by rw [← Nat.pow_add]; congr 1; omega
    have hlp : Ieee.double.leastPlace = -1074 := by decide
    have hb : Ieee.double.binade = 2 ^ 52 := rfl
    have hr : Ieee.double.infRung = 2047 * 2 ^ 52 := by decide
    have hw : Ieee.double.signWeight = 2 ^ 63 := rfl
    have hf : Ieee.double.fractionBits = 52 := rfl
    have e1 : max (0 + (m.log2 : Int) - (52 : Nat)) (-1074) = (m.log2 : Int) - 52 := by omega
    have e2 : (0 - ((m.log2 : Int) - 52)).toNat = 52 - m.log2 := by omega
    have e3 : ((m.log2 : Int) - 52 - 0).toNat = 0 := by omega
    have e4 : ((m.log2 : Int) - 52 - -1074).toNat = m.log2 + 1022 := by omega
    have hn : Ieee.double.nearest neg m 0 = Ieee.double.word neg ((m.log2 + 1022) * 2 ^ 52 + m <<< (52 - m.log2)) := by
      unfold Ieee.Format.nearest
      rw [if_neg h0]
      simp only [hlp, hb, hr, hf, e1, e2, e3, e4, cut0]
      congr 1
      rw [Nat.min_eq_left]
      omega
    rw [hn]
    generalize hK : m <<< (52 - m.log2) = K at *
    have w1 : Ieee.double.word neg ((m.log2 + 1022) * 2 ^ 52 + K) / 2 ^ 63 % 2 = neg.toNat := by
      unfold Ieee.Format.word
      rw [hw]
      cases neg <;> simp <;> omega
    have w2 : Ieee.double.word neg ((m.log2 + 1022) * 2 ^ 52 + K) % 2 ^ 63 = (m.log2 + 1022) * 2 ^ 52 + K := by
      unfold Ieee.Format.word
      rw [hw]
      cases neg <;> simp <;> omega
    unfold Ieee.Format.read
    simp only [hw, w1, w2, hb, hr, hlp]
    rw [if_neg (by omega), if_pos (by omega)]
    have f1 : 2 ^ 52 + ((m.log2 + 1022) * 2 ^ 52 + K) % 2 ^ 52 = K := by omega
    have f2 : ((m.log2 + 1022) * 2 ^ 52 + K) / 2 ^ 52 = m.log2 + 1023 := by omega
    have g1 : (neg.toNat == 1) = neg := by cases neg <;> rfl
    have g2 : -1074 + ((m.log2 + 1023 - 1 : Nat) : Int) = -((52 - m.log2 : Nat) : Int) := by omega
    rw [f1, f2, g1, g2]

theorem nearest0 (neg : Bool) : Ieee.double.nearest neg 0 0 = Ieee.double.word neg 0 := by
  unfold Ieee.Format.nearest; rw [if_pos rfl]

/-- a whole number of fewer than 54 digits is told exactly -/
theorem val_near (x : Int) (h : x.natAbs < 2 ^ 53) : Val (FloatKind.f64.decode (FloatKind.f64.nearest x)) x := by
  show Val (Ieee.double.read (Ieee.double.nearest (decide (x < 0)) x.natAbs 0)) x
  by_cases h0 : x.natAbs = 0
  · have : x = 0 := by omega
    subst this
    exact ⟨false, 0, -1074, by decide, by omega, by rw [Int.zero_mul]; rfl⟩
  · obtain ⟨k, hk, -, -, he⟩ := near_small (decide (x < 0)) x.natAbs h0 h
    refine ⟨_, _, _, he, by omega, ?_⟩
    have : (- -(k : Int)).toNat = k := by omega
    rw [this]
    unfold Ieee.signed
    simp only [Nat.shiftLeft_eq, Nat.pow_zero, Nat.mul_one]
    by_cases hx : x < 0
    · simp only [hx, decide_true, if_true]
      have : (x.natAbs : Int) = -x := by omega
      rw [Int.natCast_mul, this, Int.neg_mul]
      simp
    · simp only [hx, decide_false]
      have : (x.natAbs : Int) = x := by omega
      simp [Int.natCast_mul, this]

theorem cut_low (neg : Bool) (n d : Nat) (h : n ≠ 0) (hd : d ≤ n.log2) : n / 2 ^ d ≤ Ieee.Toward.even.cut neg n d ∧ Ieee.Toward.even.cut neg n d ≤ n / 2 ^ d + 1 := by
  unfold Ieee.Toward.cut
  have : 1 <<< min d (n.log2 + 2) = 2 ^ d := by rw [Nat.min_eq_left (by omega), Nat.shiftLeft_eq, Nat.one_mul]
  simp only [this]
  refine ⟨Nat.le_add_right _ _, Nat.add_le_add_left ?_ _⟩
  cases (decide (2 ^ d < 2 * (n % 2 ^ d)) || 2 ^ d == 2 * (n % 2 ^ d) && n / 2 ^ d % 2 == 1) <;> decide

/-- a greater one stands for a number at least as great as 2 ^ 53 -/
theorem near_big (neg : Bool) (m : Nat) (h : 2 ^ 53 ≤ m) (h2 : m ≤ 2 ^ 63) :
    ∃ M k, 2 ^ 52 ≤ M ∧ 1 ≤ k ∧
      Ieee.double.read (Ieee.double.nearest neg m 0) = .number neg M (k : Nat) := by
  have h0 : m ≠ 0 := by omega
  have hl : 53 ≤ m.log2 := (Nat.le_log2 h0).2 h
  have hl2 : m.log2 ≤ 63 := by
    have := (Nat.log2_lt h0 (k := 64)).2 (by omega); omega
  have hlo : 2 ^ m.log2 ≤ m := Nat.log2_self_le h0
  have hhi : m < 2 ^ (m.log2 + 1) := Nat.lt_log2_self
  have hlp : Ieee.double.leastPlace = -1074 := by decide
  have hb : Ieee.double.binade = 2 ^ 52 := rfl
  have hr : Ieee.double.infRung = 2047 * 2 ^ 52 := by decide
  have hw : Ieee.double.signWeight = 2 ^ 63 := rfl
  have hf : Ieee.double.fractionBits = 52 := rfl
  have e1 : max (0 + (m.log2 : Int) - (52 : Nat)) (-1074) = (m.log2 : Int) - 52 := by omega
  have e2 : (0 - ((m.log2 : Int) - 52)).toNat = 0 := by omega
  have e3 : ((m.log2 : Int) - 52 - 0).toNat = m.log2 - 52 := by omega
  have e4 : ((m.log2 : Int) - 52 - -1074).toNat = m.log2 + 1022 := by omega
  have c := cut_low neg m (m.log2 - 52) h0 (by omega)
  have d1 : 2 ^ 52 ≤ m / 2 ^ (m.log2 - 52) := by
    rw [Nat.le_div_iff_mul_le (Nat.pow_pos (by omega)), ← Nat.pow_add]
    have : 52 + (m.log2 - 52) = m.log2 := by omega
    rw [this]; exact hlo
  have d2 : m / 2 ^ (m.log2 - 52) < 2 ^ 53 := by
    rw [Nat.div_lt_iff_lt_mul (Nat.pow_pos (by omega)), ← Nat.pow_add]
    have : 53 + (m.log2 - 52) = m.log2 + 1 := by omega
    rw [this]; exact hhi
  generalize hK : Ieee.Toward.even.cut neg m (m.log2 - 52) = K at *
  have hn : Ieee.double.nearest neg m 0 = Ieee.double.word neg ((m.log2 + 1022) * 2 ^ 52 + K) := by
    unfold Ieee.Format.nearest
    rw [if_neg h0]
    simp only [hlp, hb, hr, hf, e1, e2, e3, e4, Nat.shiftLeft_zero, hK]
    congr 1
    rw [Nat.min_eq_left]
    omega
  rw [hn]
  have w1 : Ieee.double.word neg ((m.log2 + 1022) * 2 ^ 52 + K) / 2 ^ 63 % 2 = neg.toNat := by
    unfold Ieee.Format.word
    rw [hw]
    cases neg <;> simp <;> omega
  have w2 : Ieee.double.word neg ((m.log2 + 1022) * 2 ^ 52 + K) % 2 ^ 63 = (m.log2 + 1022) * 2 ^ 52 + K := by
    unfold Ieee.Format.word
    rw [hw]
    cases neg <;> simp <;> omega
  refine ⟨2 ^ 52 + ((m.log2 + 1022) * 2 ^ 52 + K) % 2 ^ 52, ((m.log2 + 1022) * 2 ^ 52 + K) / 2 ^ 52 - 1 - 1074, by omega, by omega, ?_⟩
  unfold Ieee.Format.read
  simp only [hw, w1, w2, hb, hr, hlp]
  rw [if_neg (by omega), if_pos (by omega)]
  have g1 : (neg.toNat == 1) = neg := by cases neg <;> rfl
  have g2 : -1074 + ((((m.log2 + 1022) * 2 ^ 52 + K) / 2 ^ 52 - 1 : Nat) : Int) = ((((m.log2 + 1022) * 2 ^ 52 + K) / 2 ^ 52 - 1 - 1074 : Nat) : Int) := by omega
  rw [g1, g2]

theorem order_big {d e : Ieee.Datum} {y : Int} {s : Bool} {M k : Nat} (hd : d = .number s M (k : Nat)) (hM : 2 ^ 52 ≤ M)
    (hy0 : 0 ≤ y) (hy : y < 2 ^ 52) (he : Val e y) : (d.order e == some .eq) = false := by
  obtain ⟨t, n, j, rfl, hj, hu⟩ := he
  subst hd
  show (some (compare _ _) == some Ordering.eq) = false
  rw [signed_up s M, signed_up t n, hu, Int.mul_assoc, ← Int.pow_add]
  have e1 : min ((k : Nat) : Int) j = j := by omega
  have e2 : (-j).toNat + (j - j).toNat = (-j).toNat := by omega
  rw [e1, e2]
  have e3 : ((k : Int) - j).toNat = k + (-j).toNat := by omega
  rw [e3, Int.pow_add, ← Int.mul_assoc, cmp_mul _ _ _ (Int.pow_pos (by omega))]
  have hne : Ieee.signed s M 0 * 2 ^ k ≠ y := by
    have hk : (1 : Int) ≤ 2 ^ k := Int.pow_pos (by omega)
    unfold Ieee.signed
    simp only [Nat.shiftLeft_eq, Nat.pow_zero, Nat.mul_one]
    have hp : (2:Int) ^ 52 ≤ (M : Int) * 2 ^ k := by
      calc (2:Int)^52 ≤ (M : Int) := by exact_mod_cast hM
        _ = (M : Int) * 1 := by omega
        _ ≤ _ := Int.mul_le_mul_of_nonneg_left hk (by omega)
    cases s
    · simp only [Bool.false_eq_true, if_false]; omega
    · simp only [if_true, Int.neg_mul]; omega
  show (some (compareOfLessAndEq _ _) == some Ordering.eq) = false
  unfold compareOfLessAndEq
  rw [if_neg hne]
  split <;> rfl

/-- two whole numbers are told as the same float just where they are the same, if one of them is small -/
theorem near_eq (x y : Int) (hx : -(2 ^ 63) ≤ x) (hx2 : x < 2 ^ 63) (hy0 : 0 ≤ y) (hy : y < 2 ^ 52) :
    (FloatKind.f64.format.order (FloatKind.f64.nearest x) (FloatKind.f64.nearest y) == some .eq) = decide (x = y) := by
  have hv := val_near y (by omega)
  by_cases h : x.natAbs < 2 ^ 53
  · have : FloatKind.f64.format.order (FloatKind.f64.nearest x) (FloatKind.f64.nearest y) = some (compare x y) := order_val (val_near x h) hv
    rw [this]
    show (some (compareOfLessAndEq _ _) == some Ordering.eq) = _
    unfold compareOfLessAndEq
    by_cases hlt : x < y
    · rw [if_pos hlt]; have : x ≠ y := by omega
      simp [this]
    · rw [if_neg hlt]
      by_cases he : x = y
      · simp [he]
      · simp [he]
  · obtain ⟨M, k, hM, hk, he⟩ := near_big (decide (x < 0)) x.natAbs (by omega) (by omega)
    have := order_big (e := FloatKind.f64.decode (FloatKind.f64.nearest y)) he hM hy0 hy hv
    have hne : x ≠ y := by omega
    rw [show decide (x = y) = false from by simp [hne]]
    exact this

theorem cutz (neg : Bool) (m k : Nat) (h : 2 ^ 52 ≤ m <<< k) (hk : k ≤ 52) : Ieee.Toward.zero.cut neg (m <<< k) k = m := by
  unfold Ieee.Toward.cut
  have h0 : m <<< k ≠ 0 := by have : 0 < 2 ^ 52 := Nat.pow_pos (by omega); omega
  have hl : 52 ≤ (m <<< k).log2 := (Nat.le_log2 h0).2 h
  have : 1 <<< min k ((m <<< k).log2 + 2) = 2 ^ k := by rw [Nat.min_eq_left (by omega), Nat.shiftLeft_eq, Nat.one_mul]
  simp only [this]
  rw [Nat.shiftLeft_eq, Nat.mul_div_cancel _ (Nat.pow_pos (by omega))]
  rfl

/-- and back -/
theorem back_near (y : Int) (hy0 : 0 ≤ y) (hy : y < 2 ^ 52) : floatToIntVal .f64 (FloatKind.f64.nearest y) .i64 = some y := by
  unfold floatToIntVal
  have : Ieee.Datum.toInt Ieee.Toward.zero (FloatKind.f64.decode (FloatKind.f64.nearest y)) = some y := by
    show Ieee.Datum.toInt Ieee.Toward.zero (Ieee.double.read (Ieee.double.nearest (decide (y < 0)) y.natAbs 0)) = some y
    by_cases h0 : y.natAbs = 0
    · have : y = 0 := by omega
      subst this
      decide
    · obtain ⟨k, hk, h1, h2, he⟩ := near_small (decide (y < 0)) y.natAbs h0 (by omega)
      rw [he]
      unfold Ieee.Datum.toInt Ieee.Datum.integral
      have a1 : (-(k : Int)).toNat = 0 ∨ k = 0 := by omega
      have a2 : (- -(k : Int)).toNat = k := by omega
      have a3 : (-(k : Int)).toNat = 0 := by omega
      simp only [a2, a3, Nat.shiftLeft_zero]
      rw [cutz _ _ _ h1 hk]
      have : ¬ y < 0 := by omega
      simp [this, Ieee.signed]
      omega
  rw [this]
  simp only
  rw [if_pos]
  have : IntKind.i64.min = -9223372036854775808 := rfl
  have : IntKind.i64.max = 9223372036854775807 := rfl
  omega
end Go.Proofs.YtjgmkcmlkffjlaaDoor
