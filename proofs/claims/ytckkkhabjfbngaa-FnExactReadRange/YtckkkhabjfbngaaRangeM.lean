/-
  What is read through blocks: plain mathematics.
-/
import Derived.Test.YtckkkhabjfbngaaFetch3M
namespace Go.Proofs.Ytckkkhabjfbngaa
open Go.RowKit
set_option linter.unusedVariables false
set_option linter.unusedSimpArgs false

theorem lessB_nodup {bs : List Bk} (x : Int) (h : (bs.map (·.1)).Nodup) : ((lessB bs x).map (·.1)).Nodup ∧ x ∉ (lessB bs x).map (·.1) := by
  constructor
  · exact List.Nodup.sublist ((List.filter_sublist).map _) h
  · intro hx
    obtain ⟨b, hb, e⟩ := List.mem_map.1 hx
    have := (List.mem_filter.1 hb).2
    simp at this
    exact this e

/-- A cache without a fault has none behind a fetch. -/
theorem okC_ft {U : Nat} {z : Int} {bs : List Bk} (hok : OkC U z bs) {xs : List Int} (hx : xs.length ≤ 400) (num : Nat) : OkC U z (ftQ z bs num (ftB U bs xs num)) := by
  by_cases h0 : (ftB U bs xs num).length = 0
  · rw [ftQ_none h0]; exact hok
  have hl := lessB_len bs (num : Int)
  have hnd := lessB_nodup (num : Int) hok.nodup
  have hU := ftB_len hok xs num
  have h4 : (num : Int) ≤ 400 := by
    by_cases hx' : ∃ Y, ((num : Int), Y) ∈ bs
    · obtain ⟨Y, hY⟩ := hx'
      exact (hok.each _ hY).2.1
    · have hn : ∀ b ∈ bs, b.1 ≠ (num : Int) := fun b hb q => hx' ⟨b.2, by rw [← q]; exact hb⟩
      have e : ftB U bs xs num = blkAt xs num U := by unfold ftB; rw [getN_none hn]; rfl
      rw [e] at h0
      have hu1 := hok.u1
      have : num * U < xs.length := by
        by_cases q : num * U < xs.length
        · exact q
        · exact absurd (by unfold blkAt; rw [List.drop_eq_nil_of_le (by omega)]; simp) h0
      have h1 : num * 1 ≤ num * U := Nat.mul_le_mul_left _ (by omega)
      omega
  have hall : ∀ b ∈ lessB bs num ++ [((num : Int), ftB U bs xs num)], 0 ≤ b.1 ∧ b.1 ≤ 400 ∧ 1 ≤ b.2.length ∧ (b.2.length : Int) ≤ U := by
    intro b hb
    rcases List.mem_append.1 hb with q | q
    · exact hok.each _ (List.mem_filter.1 q).1
    · rw [List.mem_singleton] at q
      subst q
      exact ⟨by simp, h4, by simp only; omega, by simp only; omega⟩
  have hdup : ((lessB bs num ++ [((num : Int), ftB U bs xs num)]).map (·.1)).Nodup := by
    rw [List.map_append, List.nodup_append]
    refine ⟨hnd.1, by simp, ?_⟩
    intro a ha b hb e
    simp at hb
    rw [e, hb] at ha
    exact hnd.2 ha
  have hlen : (lessB bs num ++ [((num : Int), ftB U bs xs num)]).length = (lessB bs num).length + 1 := by simp
  have h5 := hok.len
  unfold ftQ
  rw [if_neg h0]
  by_cases hz : z < ((lessB bs num ++ [((num : Int), ftB U bs xs num)]).length : Int)
  · rw [if_pos hz]
    refine ⟨hok.u1, hok.u2, hok.z1, hok.z2, ?_, fun b hb => hall b (List.mem_of_mem_drop hb), ?_⟩
    · rw [List.length_drop, hlen]
      have := hok.z1
      omega
    · exact List.Nodup.sublist ((List.drop_sublist _ _).map _) hdup
  · rw [if_neg hz]
    exact ⟨hok.u1, hok.u2, hok.z1, hok.z2, by omega, hall, hdup⟩

theorem div_is (P U : Nat) (h : P ≤ 1000) (hU : 1 ≤ U) : IntKind.i64.wrap ((P : Int).tdiv (U : Int)) = ((P / U : Nat) : Int) := by
  have e : (P : Int).tdiv (U : Int) = ((P / U : Nat) : Int) := rfl
  have h2 := Nat.div_le_self P U
  rw [e]
  clear e
  generalize P / U = q at *
  rw [IntKind.wrap_i64] <;> omega

theorem mod_is (P U : Nat) (h : P ≤ 1000) : IntKind.i64.wrap ((P : Int).tmod (U : Int)) = ((P % U : Nat) : Int) := by
  have e : (P : Int).tmod (U : Int) = ((P % U : Nat) : Int) := rfl
  have h2 := Nat.mod_le P U
  rw [e]
  clear e
  generalize P % U = q at *
  rw [IntKind.wrap_i64] <;> omega

theorem divE_is (P U : Nat) (h : P ≤ 1000) (hU : 1 ≤ U) : IntKind.i64.wrap ((P : Int) / (U : Int)) = ((P / U : Nat) : Int) := div_is P U h hU

theorem modE_is (P U : Nat) (h : P ≤ 1000) : IntKind.i64.wrap ((P : Int) % (U : Int)) = ((P % U : Nat) : Int) := mod_is P U h

/-- What is read from place P on, up to E, and what is held behind it. -/
def rg (U : Nat) (z : Int) (xs : List Int) (E : Nat) : Nat → Nat → List Bk → List Int × List Bk
  | 0, _, bs => ([], bs)
  | k + 1, P, bs =>
    if P < E then
      if (ftB U bs xs (P / U)).length < U then (((ftB U bs xs (P / U)).drop (P % U)).take (E - P), ftQ z bs ((P / U : Nat) : Int) (ftB U bs xs (P / U)))
      else (((ftB U bs xs (P / U)).drop (P % U)).take (E - P) ++ (rg U z xs E k (P + (U - P % U)) (ftQ z bs ((P / U : Nat) : Int) (ftB U bs xs (P / U)))).1, (rg U z xs E k (P + (U - P % U)) (ftQ z bs ((P / U : Nat) : Int) (ftB U bs xs (P / U)))).2)
    else ([], bs)

theorem rg_end {U : Nat} {z : Int} {xs : List Int} {E k P : Nat} {bs : List Bk} (h : E ≤ P) : rg U z xs E k P bs = ([], bs) := by
  cases k with
  | zero => rfl
  | succ k => rw [rg, if_neg (by omega)]
theorem rg_last {U : Nat} {z : Int} {xs : List Int} {E k P : Nat} {bs : List Bk} (h : P < E) (hk : E < k + P) {Y : List Int} {Q : List Bk} (hY : ftB U bs xs (P / U) = Y) (hQ : ftQ z bs ((P / U : Nat) : Int) Y = Q) (hl : Y.length < U) : rg U z xs E k P bs = ((Y.drop (P % U)).take (E - P), Q) := by
  subst hY; subst hQ
  cases k with
  | zero => omega
  | succ k => rw [rg, if_pos h, if_pos hl]
theorem rg_more {U : Nat} {z : Int} {xs : List Int} {E k P : Nat} {bs : List Bk} (h : P < E) (hk : E < k + P) {Y : List Int} {Q : List Bk} (hY : ftB U bs xs (P / U) = Y) (hQ : ftQ z bs ((P / U : Nat) : Int) Y = Q) (hl : ¬ Y.length < U) (hU : 1 ≤ U) :
    ∃ k', E < k' + (P + (U - P % U)) ∧ rg U z xs E k P bs = ((Y.drop (P % U)).take (E - P) ++ (rg U z xs E k' (P + (U - P % U)) Q).1, (rg U z xs E k' (P + (U - P % U)) Q).2) := by
  subst hY; subst hQ
  have := Nat.mod_lt P (show U > 0 by omega)
  cases k with
  | zero => omega
  | succ k => exact ⟨k, by omega, by rw [rg, if_pos h, if_neg hl]⟩
/-- The same, from the place behind what was taken. -/
theorem rg_take {U : Nat} {z : Int} {xs : List Int} {E k P : Nat} {bs : List Bk} (h : P < E) (hk : E < k + P) {Y : List Int} {Q : List Bk} (hY : ftB U bs xs (P / U) = Y) (hQ : ftQ z bs ((P / U : Nat) : Int) Y = Q) (hl : Y.length = U) (hU : 1 ≤ U) (t : Nat) (ht : t = min (E - P) (U - P % U)) :
    ∃ k', E < k' + (P + t) ∧ rg U z xs E k P bs = ((Y.drop (P % U)).take t ++ (rg U z xs E k' (P + t) Q).1, (rg U z xs E k' (P + t) Q).2) := by
  have hm := Nat.mod_lt P (show U > 0 by omega)
  obtain ⟨k', h1, h2⟩ := rg_more h hk hY hQ (by omega) hU
  have ee : (Y.drop (P % U)).take (E - P) = (Y.drop (P % U)).take t := by
    by_cases q : E - P ≤ U - P % U
    · rw [show t = E - P by omega]
    · rw [List.take_of_length_le (by rw [List.length_drop]; omega), List.take_of_length_le (by rw [List.length_drop]; omega)]
  by_cases q : E - P ≤ U - P % U
  · refine ⟨k' + U, by omega, ?_⟩
    rw [h2, ee, rg_end (by omega), rg_end (by omega)]
  · refine ⟨k', by omega, ?_⟩
    rw [h2, ee, show P + t = P + (U - P % U) by omega]

theorem rg_len {U : Nat} {z : Int} {xs : List Int} {E : Nat} (hU : 1 ≤ U) : ∀ (k P : Nat) (bs : List Bk), OkC U z bs → xs.length ≤ 400 → (rg U z xs E k P bs).1.length ≤ E - P ∧ OkC U z (rg U z xs E k P bs).2
  | 0, P, bs, hok, hx => ⟨by simp [rg], hok⟩
  | k + 1, P, bs, hok, hx => by
    have hq := okC_ft hok hx (P / U)
    have hl := ftB_len hok xs (P / U)
    have hm := Nat.mod_lt P (show U > 0 by omega)
    rw [rg]
    by_cases h : P < E
    · rw [if_pos h]
      by_cases hs : (ftB U bs xs (P / U)).length < U
      · rw [if_pos hs]
        refine ⟨?_, hq⟩
        simp only [List.length_take]
        omega
      · rw [if_neg hs]
        have ih := rg_len (E := E) hU k (P + (U - P % U)) _ hq hx
        refine ⟨?_, ih.2⟩
        simp only [List.length_append, List.length_take, List.length_drop]
        omega
    · rw [if_neg h]
      exact ⟨by simp, hok⟩

def rrBad (at_ n M : Int) : Prop := at_ < 0 ∨ 400 < at_ ∨ n < 0 ∨ 400 < n ∨ M < 1 ∨ 400 < M
instance (at_ n M : Int) : Decidable (rrBad at_ n M) := by unfold rrBad; infer_instance
def rgOf (u z : Int) (bs : List Bk) (xs : List Int) (at_ n : Int) : List Int × List Bk := rg u.toNat z xs (at_.toNat + n.toNat) (n.toNat + 1) at_.toNat bs
def rrCode (u z : Int) (bs : List Bk) (xs : List Int) (at_ n M : Int) : Int := if asked u z bs xs.length ≠ 0 then asked u z bs xs.length else if rrBad at_ n M then 3 else 0
def rrU (u z : Int) (bs : List Bk) (xs : List Int) (at_ n M : Int) : Int := if rrCode u z bs xs at_ n M = 0 then u else 0
def rrZ (u z : Int) (bs : List Bk) (xs : List Int) (at_ n M : Int) : Int := if rrCode u z bs xs at_ n M = 0 then z else 0
def rrR (u z : Int) (bs : List Bk) (xs : List Int) (at_ n M : Int) : List Int := if rrCode u z bs xs at_ n M = 0 then (rgOf u z bs xs at_ n).1 else []
def rrS (u z : Int) (bs : List Bk) (xs : List Int) (at_ n M : Int) : List Bk := if rrCode u z bs xs at_ n M = 0 then (rgOf u z bs xs at_ n).2 else []

theorem rr_bad {u z : Int} {bs : List Bk} {xs : List Int} {at_ n M c : Int} (h : rrCode u z bs xs at_ n M = c) (hc : c ≠ 0) : rrCode u z bs xs at_ n M = c ∧ rrU u z bs xs at_ n M = 0 ∧ rrZ u z bs xs at_ n M = 0 ∧ rrR u z bs xs at_ n M = [] ∧ rrS u z bs xs at_ n M = [] :=
  ⟨h, by unfold rrU; rw [h, if_neg hc], by unfold rrZ; rw [h, if_neg hc], by unfold rrR; rw [h, if_neg hc], by unfold rrS; rw [h, if_neg hc]⟩
theorem rr_asked {u z : Int} {bs : List Bk} {xs : List Int} {at_ n M : Int} (h : asked u z bs xs.length ≠ 0) : rrCode u z bs xs at_ n M = asked u z bs xs.length := if_pos h
theorem rr_range {u z : Int} {bs : List Bk} {xs : List Int} {at_ n M : Int} (h : asked u z bs xs.length = 0) (hb : rrBad at_ n M) : rrCode u z bs xs at_ n M = 3 := (if_neg (fun k => k h)).trans (if_pos hb)
theorem rr_good {u z : Int} {bs : List Bk} {xs : List Int} {at_ n M : Int} (h : asked u z bs xs.length = 0) (hb : ¬ rrBad at_ n M) : rrCode u z bs xs at_ n M = 0 ∧ rrU u z bs xs at_ n M = u ∧ rrZ u z bs xs at_ n M = z ∧ rrR u z bs xs at_ n M = (rgOf u z bs xs at_ n).1 ∧ rrS u z bs xs at_ n M = (rgOf u z bs xs at_ n).2 := by
  have e : rrCode u z bs xs at_ n M = 0 := (if_neg (fun k => k h)).trans (if_neg hb)
  exact ⟨e, if_pos e, if_pos e, if_pos e, if_pos e⟩

theorem rr_zero {u z : Int} {bs : List Bk} {xs : List Int} {at_ n M : Int} (h : rrCode u z bs xs at_ n M = 0) : OkC u z bs ∧ xs.length ≤ 400 ∧ ¬ rrBad at_ n M := by
  unfold rrCode at h
  by_cases q : asked u z bs xs.length ≠ 0
  · rw [if_pos q] at h; exact absurd h q
  · rw [if_neg q] at h
    have q' := asked_ok (n := xs.length) (Decidable.not_not.1 q)
    by_cases hb : rrBad at_ n M
    · rw [if_pos hb] at h; omega
    · exact ⟨q'.1, q'.2, hb⟩

theorem rr_len (u z : Int) (bs : List Bk) (xs : List Int) (at_ n M : Int) : (rrR u z bs xs at_ n M).length ≤ 400 ∧ ((rrS u z bs xs at_ n M).length : Int) + byB (rrS u z bs xs at_ n M) ≤ 1000000 := by
  unfold rrR rrS
  by_cases h : rrCode u z bs xs at_ n M = 0
  · rw [if_pos h, if_pos h]
    obtain ⟨hok, hx, hb⟩ := rr_zero h
    unfold rrBad at hb
    have h1 := hok.u1
    obtain ⟨U, rfl⟩ : ∃ U : Nat, u = (U : Int) := ⟨u.toNat, by omega⟩
    have h2 := rg_len (xs := xs) (E := at_.toNat + n.toNat) (by omega) (n.toNat + 1) at_.toNat bs hok hx
    unfold rgOf
    rw [Int.toNat_natCast]
    have h3 := okC_byB h2.2
    have h4 := h2.2.len
    have h5 := h2.2.z2
    omega
  · rw [if_neg h, if_neg h]
    simp [byB]
end Go.Proofs.Ytckkkhabjfbngaa
