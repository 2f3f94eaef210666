/-
  FetchBlock, of the program: what is told.
-/
import Derived.Test.YtckkkhabjfbngaaShelf6
import Derived.Test.YtckkkhabjfbngaaShelf2
import Derived.Test.YtckkkhabjfbngaaShelf4
import Derived.Test.YtckkkhabjfbngaaCache5
namespace Go.Proofs.Ytckkkhabjfbngaa
open Go.RowKit Go.ChangeMaps Go.MapKept
set_option linter.unusedVariables false
set_option linter.unusedSimpArgs false

theorem fetch_any (bm U : Nat) (Z T : Int) (E : List En) (bs : List Bk) (num M : Nat) (p : Option Addr) (m cp : Nat) (xs : List Int) (w : World) (h : Shelf bm U Z T w E bs) (hok : OkC U Z bs) (hp : Rd .u8 w p m xs) (hm : m ≤ 400) (hmc : m ≤ cp) (hcm : cp ≤ maxLen) (hnum : num ≤ 1000) (hM1 : 1 ≤ M) (hM : M ≤ 400) (hT : T < 100000) :
    Calls Try.prog 51 #[.pointer (some ⟨bm + 1, 0, none⟩), .agg #[.slice p m cp], .int .i64 num, .int .i64 M] w fun e w' => ∃ (a : Option Addr) (c : Nat) (E' : List En) (T' : Int), e = .returned (.slice a (ftB U bs xs num).length c) ∧ Rd .u8 w' a (ftB U bs xs num).length (ftB U bs xs num) ∧ (ftB U bs xs num).length ≤ c ∧ c ≤ maxLen ∧ Shelf bm U Z T' w' E' (ftQ Z bs num (ftB U bs xs num)) ∧ T' ≤ T + 1 ∧ Chg bm (bm + 2) w w' ∧ NewV w E E' := by
  have hu1 := hok.u1
  have hu2 := hok.u2
  have hz1 := hok.z1
  have hz2 := hok.z2
  have hl := hok.len
  by_cases hx : ∃ Y, ((num : Int), Y) ∈ bs
  · obtain ⟨Y, hY⟩ := hx
    have e : ftB U bs xs num = Y := by unfold ftB; rw [getN_some hok.nodup hY]; rfl
    rw [e]
    exact fetch_there bm U Z T E bs num M p m cp xs w h hp hm hmc hcm (by omega) (by omega) hnum hM1 hM hT hz1 (by omega) Y hY (hok.each _ hY).2.2.1
  · have hn : ∀ b ∈ bs, b.1 ≠ (num : Int) := fun b hb q => hx ⟨b.2, by rw [← q]; exact hb⟩
    have e : ftB U bs xs num = blkAt xs num U := by unfold ftB; rw [getN_none hn]; rfl
    exact fetch_new bm U Z T E bs num M p m cp xs w h hp hm hmc hcm (by omega) (by omega) hnum hM1 hM hT hz1 (by omega) (ftB U bs xs num) e hn

theorem ftB_len {U : Nat} {Z : Int} {bs : List Bk} (hok : OkC U Z bs) (xs : List Int) (num : Nat) : (ftB U bs xs num).length ≤ U := by
  unfold ftB
  cases h : getN bs num with
  | none => simp [blkAt]; omega
  | some Y =>
    have : ((num : Int), Y) ∈ bs := by
      clear hok
      induction bs with
      | nil => simp [getN] at h
      | cons b bs ih =>
        rw [getN] at h
        by_cases hb : b.1 = (num : Int)
        · rw [if_pos hb] at h
          have h' : b.2 = Y := by simpa using h
          rw [← hb, ← h']
          exact List.mem_cons_self
        · rw [if_neg hb] at h
          exact List.mem_cons_of_mem _ (ih h)
    have := (hok.each _ this).2.2.2
    simp only [Option.getD_some] at this ⊢
    omega

theorem byB_drop (bs : List Bk) : byB (bs.drop 1) ≤ byB bs := by
  cases bs with
  | nil => simp [byB]
  | cons b bs =>
    have e1 : byB (b :: bs) = b.2.length + byB bs := rfl
    simp only [List.drop_succ_cons, List.drop_zero]
    omega

theorem ftQ_bd (Z : Int) (bs : List Bk) (num : Int) (Y : List Int) : (ftQ Z bs num Y).length ≤ bs.length + 1 ∧ byB (ftQ Z bs num Y) ≤ byB bs + Y.length := by
  have h1 := List.length_filter_le (fun b : Bk => decide (b.1 ≠ num)) bs
  have h2 := byB_filter (fun b : Bk => decide (b.1 ≠ num)) bs
  have h3 : byB (lessB bs num ++ [(num, Y)]) = byB (lessB bs num) + Y.length := by rw [byB_append]; rfl
  have h4 := byB_drop (lessB bs num ++ [(num, Y)])
  unfold ftQ
  split
  · omega
  · split
    · rw [List.length_drop, List.length_append]
      unfold lessB at *
      simp at *
      omega
    · rw [List.length_append]
      unfold lessB at *
      simp at *
      omega

def ftBad (num M : Int) : Prop := num < 0 ∨ 400 < num ∨ M < 1 ∨ 400 < M
instance (num M : Int) : Decidable (ftBad num M) := by unfold ftBad; infer_instance
def ftCode (u z : Int) (bs : List Bk) (xs : List Int) (num M : Int) : Int := if asked u z bs xs.length ≠ 0 then asked u z bs xs.length else if ftBad num M then 3 else 0
def ftU (u z : Int) (bs : List Bk) (xs : List Int) (num M : Int) : Int := if ftCode u z bs xs num M = 0 then u else 0
def ftZ (u z : Int) (bs : List Bk) (xs : List Int) (num M : Int) : Int := if ftCode u z bs xs num M = 0 then z else 0
def ftR (u z : Int) (bs : List Bk) (xs : List Int) (num M : Int) : List Int := if ftCode u z bs xs num M = 0 then ftB u.toNat bs xs num.toNat else []
def ftS (u z : Int) (bs : List Bk) (xs : List Int) (num M : Int) : List Bk := if ftCode u z bs xs num M = 0 then ftQ z bs num (ftB u.toNat bs xs num.toNat) else []

theorem ft_bad {u z : Int} {bs : List Bk} {xs : List Int} {num M c : Int} (h : ftCode u z bs xs num M = c) (hc : c ≠ 0) : ftCode u z bs xs num M = c ∧ ftU u z bs xs num M = 0 ∧ ftZ u z bs xs num M = 0 ∧ ftR u z bs xs num M = [] ∧ ftS u z bs xs num M = [] :=
  ⟨h, by unfold ftU; rw [h, if_neg hc], by unfold ftZ; rw [h, if_neg hc], by unfold ftR; rw [h, if_neg hc], by unfold ftS; rw [h, if_neg hc]⟩
theorem ft_asked {u z : Int} {bs : List Bk} {xs : List Int} {num M : Int} (h : asked u z bs xs.length ≠ 0) : ftCode u z bs xs num M = asked u z bs xs.length := if_pos h
theorem ft_range {u z : Int} {bs : List Bk} {xs : List Int} {num M : Int} (h : asked u z bs xs.length = 0) (hb : ftBad num M) : ftCode u z bs xs num M = 3 := (if_neg (fun k => k h)).trans (if_pos hb)
theorem ft_good {u z : Int} {bs : List Bk} {xs : List Int} {num M : Int} (h : asked u z bs xs.length = 0) (hb : ¬ ftBad num M) : ftCode u z bs xs num M = 0 ∧ ftU u z bs xs num M = u ∧ ftZ u z bs xs num M = z ∧ ftR u z bs xs num M = ftB u.toNat bs xs num.toNat ∧ ftS u z bs xs num M = ftQ z bs num (ftB u.toNat bs xs num.toNat) := by
  have e : ftCode u z bs xs num M = 0 := (if_neg (fun k => k h)).trans (if_neg hb)
  exact ⟨e, if_pos e, if_pos e, if_pos e, if_pos e⟩

theorem asked_ok {u z : Int} {bs : List Bk} {n : Nat} (h : asked u z bs n = 0) : OkC u z bs ∧ n ≤ 400 := by
  unfold asked at h
  by_cases h0 : cacheFault u z bs = 0
  · rw [if_neg (by simpa using h0)] at h
    refine ⟨okC_of h0, ?_⟩
    unfold fFault at h
    split at h <;> omega
  · rw [if_pos h0] at h
    exact absurd h h0

theorem isMost_is (M : Int) (b : Bool) (w : World) (h : decide (1 ≤ M ∧ M ≤ 400) = b) : Calls Try.prog 48 #[.int .i64 M] w fun e w' => e = .returned (.bool b) ∧ w' = w := by
  subst h
  by_cases h1 : 1 ≤ M
  · go_enter Try.func48, Try.ntmps48
    go_wp2
    go_ret
    exact ⟨ret_bool (by simp [h1]), rfl⟩
  · go_enter Try.func48, Try.ntmps48
    go_wp2
    go_ret
    exact ⟨ret_bool (by simp; omega), rfl⟩
end Go.Proofs.Ytckkkhabjfbngaa
