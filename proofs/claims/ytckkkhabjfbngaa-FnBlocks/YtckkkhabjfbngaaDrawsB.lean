/-
  RangeM, EndB, Draw11 in one text.
-/
import Derived.Carry
import Derived.ProofKit
import Derived.OpenShut
import Derived.ChangeOld
import Derived.Below
import Derived.ChangeSame
import Derived.Deep.Slices
import Derived.Deep.Strs
import Derived.Deep.RegionWith
import Derived.Deep.RegionHeld3
import Derived.Test.YtckkkhabjfbngaaFetch3M
import Derived.Test.YtckkkhabjfbngaaBox
import Derived.Test.YtckkkhabjfbngaaChg
import Derived.Test.YtckkkhabjfbngaaBlk
import Derived.Test.YtckkkhabjfbngaaBase
import Derived.Test.YtckkkhabjfbngaaMath2
import Derived.Test.YtckkkhabjfbngaaRows
import Derived.Test.YtckkkhabjfbngaaRows2
import Derived.Test.YtckkkhabjfbngaaBlkM
import Derived.Test.YtckkkhabjfbngaaDrawsA
import Derived.Test.YtckkkhabjfbngaaFetch3
namespace Go.Proofs.Ytckkkhabjfbngaa
open Go.RowKit
set_option linter.unusedVariables false
set_option linter.unusedSimpArgs false

theorem lessB_nodup {bs : List Bk} (x : Int) (h : (bs.map (·.1)).Nodup) : ((lessB bs x).map (·.1)).Nodup ∧ x ∉ (lessB bs x).map (·.1) := by
  constructor
  · exact List.Nodup.sublist ((List.filter_sublist).map _) h
  · intro hx
    obtain ⟨b, hb, e⟩ := List.mem_map.1 hx
    have := (List.mem_filter.1 hb).2
    simp at this
    exact this e

/-- A cache without a fault has none behind a fetch. -/
theorem okC_ft {U : Nat} {z : Int} {bs : List Bk} (hok : OkC U z bs) {xs : List Int} (hx : xs.length ≤ 400) (num : Nat) : OkC U z (ftQ z bs num (ftB U bs xs num)) := by
  by_cases h0 : (ftB U bs xs num).length = 0
  · rw [ftQ_none h0]; exact hok
  have hl := lessB_len bs (num : Int)
  have hnd := lessB_nodup (num : Int) hok.nodup
  have hU := ftB_len hok xs num
  have h4 : (num : Int) ≤ 400 := by
    by_cases hx' : ∃ Y, ((num : Int), Y) ∈ bs
    · obtain ⟨Y, hY⟩ := hx'
      exact (hok.each _ hY).2.1
    · have hn : ∀ b ∈ bs, b.1 ≠ (num : Int) := fun b hb q => hx' ⟨b.2, by rw [← q]; exact hb⟩
      have e : ftB U bs xs num = blkAt xs num U := by unfold ftB; rw [getN_none hn]; rfl
      rw [e] at h0
      have hu1 := hok.u1
      have : num * U < xs.length := by
        by_cases q : num * U < xs.length
        · exact q
        · exact absurd (by unfold blkAt; rw [List.drop_eq_nil_of_le (by omega)]; simp) h0
      have h1 : num * 1 ≤ num * U := Nat.mul_le_mul_left _ (by omega)
      omega
  have hall : ∀ b ∈ lessB bs num ++ [((num : Int), ftB U bs xs num)], 0 ≤ b.1 ∧ b.1 ≤ 400 ∧ 1 ≤ b.2.length ∧ (b.2.length : Int) ≤ U := by
    intro b hb
    rcases List.mem_append.1 hb with q | q
    · exact hok.each _ (List.mem_filter.1 q).1
    · rw [List.mem_singleton] at q
      subst q
      exact ⟨by simp, h4, by simp only; omega, by simp only; omega⟩
  have hdup : ((lessB bs num ++ [((num : Int), ftB U bs xs num)]).map (·.1)).Nodup := by
    rw [List.map_append, List.nodup_append]
    refine ⟨hnd.1, by simp, ?_⟩
    intro a ha b hb e
    simp at hb
    rw [e, hb] at ha
    exact hnd.2 ha
  have hlen : (lessB bs num ++ [((num : Int), ftB U bs xs num)]).length = (lessB bs num).length + 1 := by simp
  have h5 := hok.len
  unfold ftQ
  rw [if_neg h0]
  by_cases hz : z < ((lessB bs num ++ [((num : Int), ftB U bs xs num)]).length : Int)
  · rw [if_pos hz]
    refine ⟨hok.u1, hok.u2, hok.z1, hok.z2, ?_, fun b hb => hall b (List.mem_of_mem_drop hb), ?_⟩
    · rw [List.length_drop, hlen]
      have := hok.z1
      omega
    · exact List.Nodup.sublist ((List.drop_sublist _ _).map _) hdup
  · rw [if_neg hz]
    exact ⟨hok.u1, hok.u2, hok.z1, hok.z2, by omega, hall, hdup⟩

theorem div_is (P U : Nat) (h : P ≤ 1000) (hU : 1 ≤ U) : IntKind.i64.wrap ((P : Int).tdiv (U : Int)) = ((P / U : Nat) : Int) := by
  have e : (P : Int).tdiv (U : Int) = ((P / U : Nat) : Int) := rfl
  have h2 := Nat.div_le_self P U
  rw [e]
  clear e
  generalize P / U = q at *
  rw [IntKind.wrap_i64] <;> omega

theorem mod_is (P U : Nat) (h : P ≤ 1000) : IntKind.i64.wrap ((P : Int).tmod (U : Int)) = ((P % U : Nat) : Int) := by
  have e : (P : Int).tmod (U : Int) = ((P % U : Nat) : Int) := rfl
  have h2 := Nat.mod_le P U
  rw [e]
  clear e
  generalize P % U = q at *
  rw [IntKind.wrap_i64] <;> omega

theorem divE_is (P U : Nat) (h : P ≤ 1000) (hU : 1 ≤ U) : IntKind.i64.wrap ((P : Int) / (U : Int)) = ((P / U : Nat) : Int) := div_is P U h hU

theorem modE_is (P U : Nat) (h : P ≤ 1000) : IntKind.i64.wrap ((P : Int) % (U : Int)) = ((P % U : Nat) : Int) := mod_is P U h

/-- What is read from place P on, up to E, and what is held behind it. -/
def rg (U : Nat) (z : Int) (xs : List Int) (E : Nat) : Nat → Nat → List Bk → List Int × List Bk
  | 0, _, bs => ([], bs)
  | k + 1, P, bs =>
    if P < E then
      if (ftB U bs xs (P / U)).length < U then (((ftB U bs xs (P / U)).drop (P % U)).take (E - P), ftQ z bs ((P / U : Nat) : Int) (ftB U bs xs (P / U)))
      else (((ftB U bs xs (P / U)).drop (P % U)).take (E - P) ++ (rg U z xs E k (P + (U - P % U)) (ftQ z bs ((P / U : Nat) : Int) (ftB U bs xs (P / U)))).1, (rg U z xs E k (P + (U - P % U)) (ftQ z bs ((P / U : Nat) : Int) (ftB U bs xs (P / U)))).2)
    else ([], bs)

theorem rg_end {U : Nat} {z : Int} {xs : List Int} {E k P : Nat} {bs : List Bk} (h : E ≤ P) : rg U z xs E k P bs = ([], bs) := by
  cases k with
  | zero => rfl
  | succ k => rw [rg, if_neg (by omega)]
theorem rg_last {U : Nat} {z : Int} {xs : List Int} {E k P : Nat} {bs : List Bk} (h : P < E) (hk : E < k + P) {Y : List Int} {Q : List Bk} (hY : ftB U bs xs (P / U) = Y) (hQ : ftQ z bs ((P / U : Nat) : Int) Y = Q) (hl : Y.length < U) : rg U z xs E k P bs = ((Y.drop (P % U)).take (E - P), Q) := by
  subst hY; subst hQ
  cases k with
  | zero => omega
  | succ k => rw [rg, if_pos h, if_pos hl]
theorem rg_more {U : Nat} {z : Int} {xs : List Int} {E k P : Nat} {bs : List Bk} (h : P < E) (hk : E < k + P) {Y : List Int} {Q : List Bk} (hY : ftB U bs xs (P / U) = Y) (hQ : ftQ z bs ((P / U : Nat) : Int) Y = Q) (hl : ¬ Y.length < U) (hU : 1 ≤ U) :
    ∃ k', E < k' + (P + (U - P % U)) ∧ rg U z xs E k P bs = ((Y.drop (P % U)).take (E - P) ++ (rg U z xs E k' (P + (U - P % U)) Q).1, (rg U z xs E k' (P + (U - P % U)) Q).2) := by
  subst hY; subst hQ
  have := Nat.mod_lt P (show U > 0 by omega)
  cases k with
  | zero => omega
  | succ k => exact ⟨k, by omega, by rw [rg, if_pos h, if_neg hl]⟩
/-- The same, from the place behind what was taken. -/
theorem rg_take {U : Nat} {z : Int} {xs : List Int} {E k P : Nat} {bs : List Bk} (h : P < E) (hk : E < k + P) {Y : List Int} {Q : List Bk} (hY : ftB U bs xs (P / U) = Y) (hQ : ftQ z bs ((P / U : Nat) : Int) Y = Q) (hl : Y.length = U) (hU : 1 ≤ U) (t : Nat) (ht : t = min (E - P) (U - P % U)) :
    ∃ k', E < k' + (P + t) ∧ rg U z xs E k P bs = ((Y.drop (P % U)).take t ++ (rg U z xs E k' (P + t) Q).1, (rg U z xs E k' (P + t) Q).2) := by
  have hm := Nat.mod_lt P (show U > 0 by omega)
  obtain ⟨k', h1, h2⟩ := rg_more h hk hY hQ (by omega) hU
  have ee : (Y.drop (P % U)).take (E - P) = (Y.drop (P % U)).take t := by
    by_cases q : E - P ≤ U - P % U
    · rw [show t = E - P by omega]
    · rw [List.take_of_length_le (by rw [List.length_drop]; omega), List.take_of_length_le (by rw [List.length_drop]; omega)]
  by_cases q : E - P ≤ U - P % U
  · refine ⟨k' + U, by omega, ?_⟩
    rw [h2, ee, rg_end (by omega), rg_end (by omega)]
  · refine ⟨k', by omega, ?_⟩
    rw [h2, ee, show P + t = P + (U - P % U) by omega]

theorem rg_len {U : Nat} {z : Int} {xs : List Int} {E : Nat} (hU : 1 ≤ U) : ∀ (k P : Nat) (bs : List Bk), OkC U z bs → xs.length ≤ 400 → (rg U z xs E k P bs).1.length ≤ E - P ∧ OkC U z (rg U z xs E k P bs).2
  | 0, P, bs, hok, hx => ⟨by simp [rg], hok⟩
  | k + 1, P, bs, hok, hx => by
    have hq := okC_ft hok hx (P / U)
    have hl := ftB_len hok xs (P / U)
    have hm := Nat.mod_lt P (show U > 0 by omega)
    rw [rg]
    by_cases h : P < E
    · rw [if_pos h]
      by_cases hs : (ftB U bs xs (P / U)).length < U
      · rw [if_pos hs]
        refine ⟨?_, hq⟩
        simp only [List.length_take]
        omega
      · rw [if_neg hs]
        have ih := rg_len (E := E) hU k (P + (U - P % U)) _ hq hx
        refine ⟨?_, ih.2⟩
        simp only [List.length_append, List.length_take, List.length_drop]
        omega
    · rw [if_neg h]
      exact ⟨by simp, hok⟩

def rrBad (at_ n M : Int) : Prop := at_ < 0 ∨ 400 < at_ ∨ n < 0 ∨ 400 < n ∨ M < 1 ∨ 400 < M
instance (at_ n M : Int) : Decidable (rrBad at_ n M) := by unfold rrBad; infer_instance
def rgOf (u z : Int) (bs : List Bk) (xs : List Int) (at_ n : Int) : List Int × List Bk := rg u.toNat z xs (at_.toNat + n.toNat) (n.toNat + 1) at_.toNat bs
def rrCode (u z : Int) (bs : List Bk) (xs : List Int) (at_ n M : Int) : Int := if asked u z bs xs.length ≠ 0 then asked u z bs xs.length else if rrBad at_ n M then 3 else 0
def rrU (u z : Int) (bs : List Bk) (xs : List Int) (at_ n M : Int) : Int := if rrCode u z bs xs at_ n M = 0 then u else 0
def rrZ (u z : Int) (bs : List Bk) (xs : List Int) (at_ n M : Int) : Int := if rrCode u z bs xs at_ n M = 0 then z else 0
def rrR (u z : Int) (bs : List Bk) (xs : List Int) (at_ n M : Int) : List Int := if rrCode u z bs xs at_ n M = 0 then (rgOf u z bs xs at_ n).1 else []
def rrS (u z : Int) (bs : List Bk) (xs : List Int) (at_ n M : Int) : List Bk := if rrCode u z bs xs at_ n M = 0 then (rgOf u z bs xs at_ n).2 else []

theorem rr_bad {u z : Int} {bs : List Bk} {xs : List Int} {at_ n M c : Int} (h : rrCode u z bs xs at_ n M = c) (hc : c ≠ 0) : rrCode u z bs xs at_ n M = c ∧ rrU u z bs xs at_ n M = 0 ∧ rrZ u z bs xs at_ n M = 0 ∧ rrR u z bs xs at_ n M = [] ∧ rrS u z bs xs at_ n M = [] :=
  ⟨h, by unfold rrU; rw [h, if_neg hc], by unfold rrZ; rw [h, if_neg hc], by unfold rrR; rw [h, if_neg hc], by unfold rrS; rw [h, if_neg hc]⟩
theorem rr_asked {u z : Int} {bs : List Bk} {xs : List Int} {at_ n M : Int} (h : asked u z bs xs.length ≠ 0) : rrCode u z bs xs at_ n M = asked u z bs xs.length := if_pos h
theorem rr_range {u z : Int} {bs : List Bk} {xs : List Int} {at_ n M : Int} (h : asked u z bs xs.length = 0) (hb : rrBad at_ n M) : rrCode u z bs xs at_ n M = 3 := (if_neg (fun k => k h)).trans (if_pos hb)
theorem rr_good {u z : Int} {bs : List Bk} {xs : List Int} {at_ n M : Int} (h : asked u z bs xs.length = 0) (hb : ¬ rrBad at_ n M) : rrCode u z bs xs at_ n M = 0 ∧ rrU u z bs xs at_ n M = u ∧ rrZ u z bs xs at_ n M = z ∧ rrR u z bs xs at_ n M = (rgOf u z bs xs at_ n).1 ∧ rrS u z bs xs at_ n M = (rgOf u z bs xs at_ n).2 := by
  have e : rrCode u z bs xs at_ n M = 0 := (if_neg (fun k => k h)).trans (if_neg hb)
  exact ⟨e, if_pos e, if_pos e, if_pos e, if_pos e⟩

theorem rr_zero {u z : Int} {bs : List Bk} {xs : List Int} {at_ n M : Int} (h : rrCode u z bs xs at_ n M = 0) : OkC u z bs ∧ xs.length ≤ 400 ∧ ¬ rrBad at_ n M := by
  unfold rrCode at h
  by_cases q : asked u z bs xs.length ≠ 0
  · rw [if_pos q] at h; exact absurd h q
  · rw [if_neg q] at h
    have q' := asked_ok (n := xs.length) (Decidable.not_not.1 q)
    by_cases hb : rrBad at_ n M
    · rw [if_pos hb] at h; omega
    · exact ⟨q'.1, q'.2, hb⟩

theorem rr_len (u z : Int) (bs : List Bk) (xs : List Int) (at_ n M : Int) : (rrR u z bs xs at_ n M).length ≤ 400 ∧ ((rrS u z bs xs at_ n M).length : Int) + byB (rrS u z bs xs at_ n M) ≤ 1000000 := by
  unfold rrR rrS
  by_cases h : rrCode u z bs xs at_ n M = 0
  · rw [if_pos h, if_pos h]
    obtain ⟨hok, hx, hb⟩ := rr_zero h
    unfold rrBad at hb
    have h1 := hok.u1
    obtain ⟨U, rfl⟩ : ∃ U : Nat, u = (U : Int) := ⟨u.toNat, by omega⟩
    have h2 := rg_len (xs := xs) (E := at_.toNat + n.toNat) (by omega) (n.toNat + 1) at_.toNat bs hok hx
    unfold rgOf
    rw [Int.toNat_natCast]
    have h3 := okC_byB h2.2
    have h4 := h2.2.len
    have h5 := h2.2.z2
    omega
  · rw [if_neg h, if_neg h]
    simp [byB]
end Go.Proofs.Ytckkkhabjfbngaa

namespace Go.Proofs.Ytckkkhabjfbngaa
open Go.RowKit
set_option linter.unusedVariables false

theorem region_join {P : Program} {id : Nat} {ops : Array Oper} {b : Bool} {Q : Exit → Act → World → Prop} {a : Act} {w : World} (J : Act → Act → World → Prop)
    (h : (Code.region id ops b).wp P (fun e a' w' => e = .normal ∧ J a a' w') a w) (k : ∀ a' w', J a a' w' → Q .normal a' w') : (Code.region id ops b).wp P Q a w :=
  Code.wp_mono (fun e a' w' hj => by obtain ⟨he, hj⟩ := hj; subst he; exact k _ _ hj) h

theorem RowI.setB {k : IntKind} {e : TypeId} {w : World} {lo hi n B : Nat} {v : Value} {xs : List Int} (h : RowI k e w lo hi v n xs) (hb : B < lo ∨ hi ≤ B) (i : Nat) (u : Value) : RowI k e (w.setCell ⟨B, i, none⟩ u) lo hi v n xs :=
  h.chg (Chg.one (set_grown w B i u)) (by omega)

theorem size_set (w : World) (a : Addr) (u : Value) : (w.setCell a u).heap.size = w.heap.size := by simp [World.setCell]

theorem Blk.below {W W' : World} {B : Nat} {cs : Array Value} {t : TypeId} (h : Blk W B cs t) (hb : Below W.heap.size W W') : Blk W' B cs t :=
  h.kept (grownBy_of_below hb) (by simp)
end Go.Proofs.Ytckkkhabjfbngaa

namespace Go.Proofs.Ytckkkhabjfbngaa
open Go.RowKit

theorem RowB.setB {eB eU : TypeId} {w : World} {lo hi n B : Nat} {v : Value} {bs : List Bk} (h : RowB eB eU w lo hi v n bs) (hb : B < lo ∨ hi ≤ B) (i : Nat) (u : Value) : RowB eB eU (w.setCell ⟨B, i, none⟩ u) lo hi v n bs :=
  h.chg (Chg.one (set_grown w B i u)) (by omega)
end Go.Proofs.Ytckkkhabjfbngaa

namespace Go.Proofs.Ytckkkhabjfbngaa
open Go.RowKit Go.ChangeShapes
variable {H : Type} {enc : TypeId × Value → H} {P : Program} {w : World} {base : Nat} {spare : Nat → Bool} {held : Bool}

theorem trodAll_five {t0 t1 t2 t3 t4 : TypeId} {args : Array Value} {ds : List (DataW H)} {ps : List MemPlace} (h : DataW.TrodAll enc P w base spare held [t0, t1, t2, t3, t4] args.toList ds ps) :
    ∃ v0 v1 v2 v3 v4 d0 d1 d2 d3 d4 p0 p1 p2 p3 p4, args = #[v0, v1, v2, v3, v4] ∧ ds = [d0, d1, d2, d3, d4] ∧ ps = p0 ++ p1 ++ p2 ++ p3 ++ p4 ∧ DataW.Trod enc P w base spare held t0 v0 d0 p0 ∧ DataW.Trod enc P w base spare held t1 v1 d1 p1 ∧ DataW.Trod enc P w base spare held t2 v2 d2 p2 ∧ DataW.Trod enc P w base spare held t3 v3 d3 p3 ∧ DataW.Trod enc P w base spare held t4 v4 d4 p4 := by
  obtain ⟨v, vs, d, ds', p, q, hargs, rfl, rfl, hd, hr⟩ := trodAll_cons h
  obtain ⟨v1, vs1, d1, ds1, p1, q1, rfl, rfl, rfl, hd1, hr1⟩ := trodAll_cons hr
  obtain ⟨v2, vs2, d2, ds2, p2, q2, rfl, rfl, rfl, hd2, hr2⟩ := trodAll_cons hr1
  obtain ⟨v3, vs3, d3, ds3, p3, q3, rfl, rfl, rfl, hd3, hr3⟩ := trodAll_cons hr2
  obtain ⟨v4, vs4, d4, ds4, p4, q4, rfl, rfl, rfl, hd4, hr4⟩ := trodAll_cons hr3
  obtain ⟨rfl, rfl, rfl⟩ := trodAll_nil hr4
  exact ⟨v, v1, v2, v3, v4, d, d1, d2, d3, d4, p, p1, p2, p3, p4, by cases args; simp_all, rfl, by simp, hd, hd1, hd2, hd3, hd4⟩

theorem trodAll_mk5 {t0 t1 t2 t3 t4 : TypeId} {v0 v1 v2 v3 v4 : Value} {d0 d1 d2 d3 d4 : DataW H} {p0 p1 p2 p3 p4 : List MemPlace} (h0 : DataW.Trod enc P w base spare held t0 v0 d0 p0) (h1 : DataW.Trod enc P w base spare held t1 v1 d1 p1) (h2 : DataW.Trod enc P w base spare held t2 v2 d2 p2) (h3 : DataW.Trod enc P w base spare held t3 v3 d3 p3) (h4 : DataW.Trod enc P w base spare held t4 v4 d4 p4) :
    DataW.TrodAll enc P w base spare held [t0, t1, t2, t3, t4] [v0, v1, v2, v3, v4] [d0, d1, d2, d3, d4] (p0 ++ (p1 ++ (p2 ++ (p3 ++ p4)))) := ⟨p0, p1 ++ (p2 ++ (p3 ++ p4)), h0, trodAll_mk4 h1 h2 h3 h4, rfl⟩
end Go.Proofs.Ytckkkhabjfbngaa

namespace Go.Proofs.Ytckkkhabjfbngaa
open Go.ChangeShapes Go.WideShapes Go.ChangeAt Go.RowKit
set_option linter.unusedVariables false

theorem bytes_of_wf {zs : List Int} (h : ∀ n ∈ zs, (Lit.int .u8 n).wf = true) : Bytes zs := by
  intro x hx
  have := h x hx
  simpa [Lit.wf, IntKind.min, IntKind.max, IntKind.signed, IntKind.bits] using this

theorem open_bytes {P : Program} {H : Type} {enc : TypeId × Value → H} {W : World} {T E : TypeId} {a : Option Addr} {len cap : Nat} {d : DataW H} {p : List MemPlace} {sp : Nat → Bool} {hd : Bool}
    (hT : P.underlying T = some (.slice E)) (hE : P.underlying E = some (.int .u8)) (hc : P.cellsOf E = 1) (h : DataW.Trod enc P W 0 sp hd T (.slice a len cap) d p) :
    ∃ xs, Rd .u8 W a len xs ∧ Bytes xs ∧ len ≤ maxLen := by
  obtain ⟨fuel, hf⟩ := h
  rcases open_ints hT hE hc hf with ⟨hcs, _⟩ | ⟨x, l, c, zs, hcs, _, hl, hm, hz, _, hcell, hwz⟩
  · simp [Value.cells] at hcs
    obtain ⟨rfl, rfl, rfl⟩ := hcs
    exact ⟨[], ⟨rfl, .inl rfl⟩, fun x hx => by simp at hx, by simp [maxLen]⟩
  · simp [Value.cells] at hcs
    obtain ⟨rfl, rfl, rfl⟩ := hcs
    have hzl : len ≤ zs.length := by rw [hz]; split <;> omega
    refine ⟨zs.take len, ⟨by simp; omega, ?_⟩, fun y hy => bytes_of_wf hwz y (List.mem_of_mem_take hy), by omega⟩
    by_cases h0 : len = 0
    · exact .inl h0
    · obtain ⟨b, off, spot⟩ := x
      have hc0 := hcell 0 (by omega)
      have hspot : spot = none := by simpa [Addr.add] using World.cell?_spot hc0
      subst hspot
      refine .inr ⟨b, off, rfl, fun j hj => ?_⟩
      have := hcell j (by omega)
      rw [Addr.add_lit] at this
      rw [this]
      simp [List.getD_eq_getElem?_getD, hj]
end Go.Proofs.Ytckkkhabjfbngaa

namespace Go.Proofs.Ytckkkhabjfbngaa
open Go.ChangeShapes Go.WideShapes Go.ChangeAt Go.RowKit
set_option linter.unusedVariables false

/-- Cells that read as a slice of bytes. -/
theorem open_bytes_cells {P : Program} {H : Type} {enc : TypeId × Value → H} {W : World} {T E : TypeId} {cs : List Value} {x : DataW H × List MemPlace} {base fuel : Nat} {sp : Nat → Bool} {hd : Bool}
    (hT : P.underlying T = some (.slice E)) (hE : P.underlying E = some (.int .u8)) (hc : P.cellsOf E = 1) (hf : DataW.trod enc P W base sp hd fuel T cs = some x) :
    ∃ a len cap xs, cs = [.slice a len cap] ∧ Rd .u8 W a len xs ∧ Bytes xs ∧ len ≤ cap ∧ cap ≤ maxLen := by
  rcases open_ints hT hE hc hf with ⟨hcs, _⟩ | ⟨x, l, c, zs, hcs, _, hl, hm, hz, _, hcell, hwz⟩
  · exact ⟨none, 0, 0, [], hcs, ⟨rfl, .inl rfl⟩, fun x hx => by simp at hx, by omega, by simp [maxLen]⟩
  · have hzl : l ≤ zs.length := by rw [hz]; split <;> omega
    refine ⟨some x, l, c, zs.take l, hcs, ⟨by simp; omega, ?_⟩, fun y hy => bytes_of_wf hwz y (List.mem_of_mem_take hy), hl, hm⟩
    by_cases h0 : l = 0
    · exact .inl h0
    · obtain ⟨b, off, spot⟩ := x
      have hc0 := hcell 0 (by omega)
      have hspot : spot = none := by simpa [Addr.add] using World.cell?_spot hc0
      subst hspot
      refine .inr ⟨b, off, rfl, fun j hj => ?_⟩
      have := hcell j (by omega)
      rw [Addr.add_lit] at this
      rw [this]
      simp [List.getD_eq_getElem?_getD, hj]

set_option maxRecDepth 100000 in
theorem open_file {H : Type} {enc : TypeId × Value → H} {W : World} {v : Value} {d : DataW H} {p : List MemPlace} {base b0 : Nat} {r : Reach} {sp : Nat → Bool} {hd : Bool}
    (hv : Value.okWide Try.prog W r b0 62 v) (h : DataW.Trod enc Try.prog W base sp hd 62 v d p) :
    ∃ a len cap xs, v = .agg #[.slice a len cap] ∧ Rd .u8 W a len xs ∧ Bytes xs ∧ len ≤ maxLen := by
  obtain ⟨cs, rfl, hcs⟩ := okWide_struct Try.underlying62 hv
  obtain ⟨fuel, hf⟩ := h
  obtain ⟨y0, m, _, hl, hy⟩ := trod_struct1 Try.underlying62 hf
  have hc1 : Try.prog.cellsOf 62 = 1 := by kernel_rfl
  rw [hc1] at hcs
  obtain ⟨u, rfl⟩ : ∃ u, cs = #[u] := by
    obtain ⟨l⟩ := cs
    match l, hcs with
    | [u], _ => exact ⟨u, rfl⟩
  obtain ⟨a, len, cap, xs, hu, h1, h2, h3, h4⟩ := open_bytes_cells (T := 22) Try.underlying22 Try.underlying5 (by kernel_rfl) hy
  have hk : Try.prog.cellsOf 22 = 1 := by kernel_rfl
  refine ⟨a, len, cap, xs, ?_, h1, h2, by omega⟩
  simp only [Value.cells, hk] at hu
  simpa using hu
end Go.Proofs.Ytckkkhabjfbngaa

namespace Go.Proofs.Ytckkkhabjfbngaa
open Go.ChangeShapes Go.WideShapes Go.ChangeAt Go.RowKit
set_option linter.unusedVariables false

/-- A slice whose elements are read by 'dec' into α. -/
theorem open_rows {α : Type} [Inhabited α] (ce : α → List Value) (size : Nat) (good : α → Prop) {P : Program} {H : Type} {enc : TypeId × Value → H} {W : World} {T E : TypeId} {a : Option Addr} {len cap : Nat} {d : DataW H} {p : List MemPlace} {base : Nat} {sp : Nat → Bool} {hd : Bool}
    (hT : P.underlying T = some (.slice E)) (hc : P.cellsOf E = size) (hs : ∀ x, (ce x).length = size) (hpos : 0 < size)
    (hel : ∀ (n : Nat) (cs : List Value) (x : DataW H × List MemPlace), DataW.trod enc P W base sp hd n E cs = some x → ∃ y, cs = ce y ∧ good y)
    (h : DataW.Trod enc P W base sp hd T (.slice a len cap) d p) :
    ∃ ys : List α, RdR ce size W a len ys ∧ (∀ y ∈ ys, good y) ∧ len ≤ cap ∧ cap ≤ maxLen := by
  obtain ⟨fuel, hf⟩ := h
  rcases Deep.open_slice hT hf with ⟨hcs, _⟩ | ⟨x, l, c, m, n, D, Pl, hcs, hb, hl, hm, hmm, _, hx⟩
  · simp [Value.cells] at hcs
    obtain ⟨rfl, rfl, rfl⟩ := hcs
    exact ⟨[], ⟨rfl, .inl rfl⟩, fun y hy => by simp at hy, Nat.le_refl _, by simp [maxLen]⟩
  · simp [Value.cells] at hcs
    obtain ⟨rfl, rfl, rfl⟩ := hcs
    have hlm : len ≤ m := by rw [hmm]; split <;> omega
    obtain ⟨Y, hY⟩ := Deep.choose_lt (α := α) (n := len) (p := fun i y => good y ∧ ∀ f v, (ce y)[f]? = some v → W.cell? (x.add (i * size + f)) = some v) (fun i hi => by
      obtain ⟨cs', h1, h2⟩ := hx i (by omega)
      obtain ⟨y, rfl, hg⟩ := hel _ _ _ h2
      refine ⟨y, hg, fun f v hv => ?_⟩
      have hf : f < size := by rw [← hs y]; exact (List.getElem?_eq_some_iff.1 hv).1
      have h3 := (World.cells?_some h1).2.2 f (by rw [hc]; exact hf)
      rw [Deep.add_add, hc] at h3
      rw [h3]
      exact hv)
    refine ⟨(List.range len).map Y, ⟨by simp, ?_⟩, ?_, hl, hm⟩
    · by_cases h0 : len = 0
      · exact .inl h0
      · obtain ⟨b, off, spot⟩ := x
        have hspot : spot = none := by
          have hlen0 : 0 < (ce (Y 0)).length := by rw [hs]; exact hpos
          have := (hY 0 (by omega)).2 0 _ (List.getElem?_eq_getElem hlen0)
          simpa [Addr.add] using World.cell?_spot this
        subst hspot
        refine .inr ⟨b, off, rfl, fun j y hy f v hv => ?_⟩
        have hj : j < len := by have := (List.getElem?_eq_some_iff.1 hy).1; simpa using this
        have hyj : y = Y j := by simp [hj] at hy; exact hy.symm
        subst hyj
        have := (hY j hj).2 f v hv
        rw [Addr.add_lit] at this
        rw [Nat.add_assoc]
        exact this
    · intro y hy
      obtain ⟨i, hi, rfl⟩ := List.mem_map.1 hy
      exact (hY i (by simpa using hi)).1

/-- A struct of three integers of one kind. -/
theorem open_three {P : Program} {H : Type} {enc : TypeId × Value → H} {W : World} {E t : TypeId} {f0 f1 f2 : Field} {base : Nat} {sp : Nat → Bool} {hd : Bool} {n : Nat} {cs : List Value} {x : DataW H × List MemPlace}
    (hE : P.underlying E = some (.struct #[f0, f1, f2])) (ht : P.underlying t = some (.int .i64)) (hc : P.cellsOf t = 1) (hcE : P.cellsOf E = 3)
    (t0 : f0.type = t) (t1 : f1.type = t) (t2 : f2.type = t) (o0 : f0.offset = 0) (o1 : f1.offset = 1) (o2 : f2.offset = 2)
    (h : DataW.trod enc P W base sp hd n E cs = some x) : ∃ a b c : Int, cs = [.int .i64 a, .int .i64 b, .int .i64 c] := by
  obtain ⟨y0, y1, y2, m, _, hl, h0, h1, h2⟩ := Deep.trod_struct3 hE h
  rw [hcE] at hl
  rw [t0, o0, hc] at h0
  rw [t1, o1, hc] at h1
  rw [t2, o2, hc] at h2
  match cs, hl with
  | [u, v, z], _ =>
    obtain ⟨a, ha, _⟩ := DataW.trod_int ht h0
    obtain ⟨b, hb, _⟩ := DataW.trod_int ht h1
    obtain ⟨c, hc', _⟩ := DataW.trod_int ht h2
    simp at ha hb hc'
    exact ⟨a, b, c, by rw [ha, hb, hc']⟩
end Go.Proofs.Ytckkkhabjfbngaa

namespace Go.Proofs.Ytckkkhabjfbngaa
open Go.ChangeShapes Go.WideShapes Go.ChangeAt Go.RowKit
set_option linter.unusedVariables false

/-- What a block that came in is: its number, and the slice of its bytes, which reads as bytes. -/
def GoodB (W : World) (y : Int × Value) : Prop := ∃ a len cap xs, y.2 = .slice a len cap ∧ Rd .u8 W a len xs ∧ Bytes xs ∧ len ≤ cap ∧ cap ≤ maxLen

set_option maxRecDepth 100000 in
theorem open_block {H : Type} {enc : TypeId × Value → H} {W : World} {base : Nat} {sp : Nat → Bool} {hd : Bool} {n : Nat} {cs : List Value} {x : DataW H × List MemPlace}
    (h : DataW.trod enc Try.prog W base sp hd n 140 cs = some x) : ∃ y : Int × Value, cs = bkE y ∧ GoodB W y := by
  obtain ⟨y0, y1, m, _, hl, h0, h1⟩ := trod_struct2 Try.underlying140 h
  have hc1 : Try.prog.cellsOf 140 = 2 := by kernel_rfl
  have k0 : Try.prog.cellsOf 2 = 1 := by kernel_rfl
  have k1 : Try.prog.cellsOf 22 = 1 := by kernel_rfl
  rw [hc1] at hl
  match cs, hl with
  | [u, v], _ =>
    obtain ⟨a, ha, _⟩ := DataW.trod_int Try.underlying2 h0
    obtain ⟨p, len, cap, xs, hp, q1, q2, q3, q4⟩ := open_bytes_cells (T := 22) Try.underlying22 Try.underlying5 (by kernel_rfl) h1
    simp only [k0, k1] at ha hp
    simp at ha hp
    exact ⟨(a, v), by simp [bkE, ha], p, len, cap, xs, hp, q1, q2, q3, q4⟩

theorem rdb_of {W : World} {a : Option Addr} {len : Nat} {ys : List Bv} (h : RdR bkE 2 W a len ys) (hg : ∀ y ∈ ys, GoodB W y) : ∃ bs : List Bk, RdB W a len bs ∧ ∀ b ∈ bs, Bytes b.2 := by
  have key : ∀ ys : List Bv, (∀ y ∈ ys, GoodB W y) → ∃ bs : List Bk, ys.length = bs.length ∧ (∀ b ∈ bs, Bytes b.2) ∧ ∀ (j : Nat) (u : Bv) (b : Bk), ys[j]? = some u → bs[j]? = some b → u.1 = b.1 ∧ ∃ a' c', u.2 = .slice a' b.2.length c' ∧ Rd .u8 W a' b.2.length b.2 ∧ b.2.length ≤ c' ∧ c' ≤ maxLen := by
    intro ys
    induction ys with
    | nil => intro _; exact ⟨[], rfl, fun b hb => by simp at hb, fun j u b hu => by simp at hu⟩
    | cons y ys ih =>
      intro hg
      obtain ⟨bs, k1, k2, k3⟩ := ih (fun z hz => hg z (List.mem_cons_of_mem _ hz))
      obtain ⟨a', len', cap', xs, e, hr, hB, h1, h2⟩ := hg y List.mem_cons_self
      have hl := hr.1
      refine ⟨(y.1, xs) :: bs, by simp [k1], fun b hb => ?_, fun j u b hu hb => ?_⟩
      · rcases List.mem_cons.1 hb with rfl | hb
        · exact hB
        · exact k2 b hb
      · cases j with
        | zero =>
          simp at hu hb
          subst hu hb
          subst hl
          exact ⟨rfl, a', cap', e, hr, h1, h2⟩
        | succ j => exact k3 j u b (by simpa using hu) (by simpa using hb)
  obtain ⟨bs, k1, k2, k3⟩ := key ys hg
  exact ⟨bs, ⟨ys, h, k1, k3⟩, k2⟩

set_option maxRecDepth 100000 in
theorem open_cache {H : Type} {enc : TypeId × Value → H} {W : World} {v : Value} {d : DataW H} {p : List MemPlace} {base b0 : Nat} {r : Reach} {sp : Nat → Bool} {hd : Bool}
    (hv : Value.okWide Try.prog W r b0 53 v) (h : DataW.Trod enc Try.prog W base sp hd 53 v d p) :
    ∃ u z a len cap bs, v = .agg #[.int .i64 u, .int .i64 z, .slice a len cap] ∧ RdB W a len bs ∧ (∀ b ∈ bs, Bytes b.2) ∧ len ≤ maxLen := by
  obtain ⟨cs, rfl, hcs⟩ := okWide_struct Try.underlying53 hv
  obtain ⟨fuel, hf⟩ := h
  obtain ⟨y0, y1, y2, m, _, hl, h0, h1, h2⟩ := Deep.trod_struct3 Try.underlying53 hf
  have hc1 : Try.prog.cellsOf 53 = 3 := by kernel_rfl
  have k0 : Try.prog.cellsOf 2 = 1 := by kernel_rfl
  have k1 : Try.prog.cellsOf 51 = 1 := by kernel_rfl
  rw [hc1] at hcs
  obtain ⟨e0, e1, e2, rfl⟩ : ∃ e0 e1 e2, cs = #[e0, e1, e2] := by
    obtain ⟨l⟩ := cs
    match l, hcs with
    | [e0, e1, e2], _ => exact ⟨e0, e1, e2, rfl⟩
  simp only [Value.cells, k0, k1] at h0 h1 h2
  obtain ⟨u, hu, _⟩ := DataW.trod_int Try.underlying2 h0
  obtain ⟨z, hz, _⟩ := DataW.trod_int Try.underlying2 h1
  simp at hu hz
  subst hu hz
  have h2' : ∃ x, DataW.trod enc Try.prog W base sp hd m 51 [e2] = some x := ⟨y2, by simpa using h2⟩
  obtain ⟨x, hx⟩ := h2'
  rcases Deep.open_slice Try.underlying51 hx with ⟨hcs', _⟩ | ⟨x', l, c, m', n', D, Pl, hcs', _⟩
  · simp at hcs'
    subst hcs'
    obtain ⟨ys, q1, q2, q3, q4⟩ := open_rows bkE 2 (GoodB W) Try.underlying51 (by kernel_rfl) bkE_len (by omega) (fun n cs x hx => open_block hx) (a := none) (len := 0) (cap := 0) (d := x.1) (p := x.2) ⟨m, by simpa [Value.cells] using hx⟩
    obtain ⟨bs, b1, b2⟩ := rdb_of q1 q2
    exact ⟨u, z, none, 0, 0, bs, rfl, b1, b2, by omega⟩
  · simp at hcs'
    subst hcs'
    obtain ⟨ys, q1, q2, q3, q4⟩ := open_rows bkE 2 (GoodB W) Try.underlying51 (by kernel_rfl) bkE_len (by omega) (fun n cs x hx => open_block hx) (a := some x') (len := l) (cap := c) (d := x.1) (p := x.2) ⟨m, by simpa [Value.cells] using hx⟩
    obtain ⟨bs, b1, b2⟩ := rdb_of q1 q2
    exact ⟨u, z, some x', l, c, bs, rfl, b1, b2, by omega⟩
end Go.Proofs.Ytckkkhabjfbngaa

namespace Go.Proofs.Ytckkkhabjfbngaa
open Go.RowKit Go.ChangeMaps Go.MapKept
set_option linter.unusedVariables false
set_option linter.unusedSimpArgs false

/-- A cache without a fault has none behind a fetch, from a file of 401 bytes, too. -/
theorem okC_ft1 {U : Nat} {z : Int} {bs : List Bk} (hok : OkC U z bs) {xs : List Int} (hx : xs.length ≤ 401) (num : Nat) : OkC U z (ftQ z bs num (ftB U bs xs num)) := by
  by_cases hx4 : xs.length ≤ 400
  · exact okC_ft hok hx4 num
  by_cases h0 : (ftB U bs xs num).length = 0
  · rw [ftQ_none h0]; exact hok
  by_cases hn4 : num ≤ 400
  · -- the block is held, or it is read: either way as from a shorter file with the same bytes there
    have hU := ftB_len hok xs num
    have hl := lessB_len bs (num : Int)
    have hnd := lessB_nodup (num : Int) hok.nodup
    have hall : ∀ b ∈ lessB bs num ++ [((num : Int), ftB U bs xs num)], 0 ≤ b.1 ∧ b.1 ≤ 400 ∧ 1 ≤ b.2.length ∧ (b.2.length : Int) ≤ U := by
      intro b hb
      rcases List.mem_append.1 hb with q | q
      · exact hok.each _ (List.mem_filter.1 q).1
      · rw [List.mem_singleton] at q
        subst q
        exact ⟨by simp, by simp only; omega, by simp only; omega, by simp only; omega⟩
    have hdup : ((lessB bs num ++ [((num : Int), ftB U bs xs num)]).map (·.1)).Nodup := by
      rw [List.map_append, List.nodup_append]
      refine ⟨hnd.1, by simp, ?_⟩
      intro a ha b hb e
      simp at hb
      rw [e, hb] at ha
      exact hnd.2 ha
    have hlen : (lessB bs num ++ [((num : Int), ftB U bs xs num)]).length = (lessB bs num).length + 1 := by simp
    have h5 := hok.len
    unfold ftQ
    rw [if_neg h0]
    by_cases hz : z < ((lessB bs num ++ [((num : Int), ftB U bs xs num)]).length : Int)
    · rw [if_pos hz]
      refine ⟨hok.u1, hok.u2, hok.z1, hok.z2, ?_, fun b hb => hall b (List.mem_of_mem_drop hb), ?_⟩
      · rw [List.length_drop, hlen]
        have := hok.z1
        omega
      · exact List.Nodup.sublist ((List.drop_sublist _ _).map _) hdup
    · rw [if_neg hz]
      exact ⟨hok.u1, hok.u2, hok.z1, hok.z2, by omega, hall, hdup⟩
  · exfalso
    by_cases hx' : ∃ Y, ((num : Int), Y) ∈ bs
    · obtain ⟨Y, hY⟩ := hx'
      have := (hok.each _ hY).2.1
      simp only at this
      omega
    · have hn : ∀ b ∈ bs, b.1 ≠ (num : Int) := fun b hb q => hx' ⟨b.2, by rw [← q]; exact hb⟩
      have e : ftB U bs xs num = blkAt xs num U := by unfold ftB; rw [getN_none hn]; rfl
      rw [e] at h0
      have hu1 := hok.u1
      have h1 : num * 1 ≤ num * U := Nat.mul_le_mul_left _ (by omega)
      exact h0 (by unfold blkAt; rw [List.drop_eq_nil_of_le (by omega)]; simp)

def BytesB (bs : List Bk) : Prop := ∀ b ∈ bs, Bytes b.2

theorem bytes_ft {bs : List Bk} (hb : BytesB bs) {xs : List Int} (hx : Bytes xs) (z : Int) (U num : Nat) : BytesB (ftQ z bs num (ftB U bs xs num)) := by
  have hY : Bytes (ftB U bs xs num) := by
    unfold ftB
    cases h : getN bs num with
    | none => exact bytes_blk hx num U
    | some Y =>
      have : ((num : Int), Y) ∈ bs := by
        clear hb
        induction bs with
        | nil => simp [getN] at h
        | cons b bs ih =>
          rw [getN] at h
          by_cases hb : b.1 = (num : Int)
          · rw [if_pos hb] at h
            have h' : b.2 = Y := by simpa using h
            rw [← hb, ← h']
            exact List.mem_cons_self
          · rw [if_neg hb] at h
            exact List.mem_cons_of_mem _ (ih h)
      exact hb _ this
  have hall : BytesB (lessB bs num ++ [((num : Int), ftB U bs xs num)]) := by
    intro b hb'
    rcases List.mem_append.1 hb' with q | q
    · exact hb _ (List.mem_filter.1 q).1
    · rw [List.mem_singleton] at q
      subst q
      exact hY
  unfold ftQ
  split
  · exact hb
  · split
    · exact fun b hb' => hall b (List.mem_of_mem_drop hb')
    · exact hall

def DrInv (U : Nat) (z : Int) (w : World) (B b T fb cb : Nat) (p : Option Addr) (m cp : Nat) (k : Value) (wr : World) : Prop :=
  ∃ (kk : Nat) (T1 : Nat) (bs2 : List Bk) (a2 : Option Addr) (c2 : Nat), k = .int .i64 (kk : Int) ∧ kk ≤ 5 ∧ T1 + 2 * kk ≤ T + 13 ∧ OkC U z bs2 ∧ BytesB bs2 ∧ Blk wr cb #[.int .i64 U, .int .i64 z, .slice a2 bs2.length c2] 26 ∧ Blk wr w.heap.size #[.int .i64 0, .int .i64 0, .slice none 0 0] 26 ∧ RowB 93 5 wr w.heap.size wr.heap.size (.slice a2 bs2.length c2) bs2.length bs2 ∧ Src wr B b T1 ∧ w.grownBy wr (some b)

set_option maxRecDepth 20000 in
set_option maxHeartbeats 3200000 in
theorem l3Draw_any (B b T fb lo hi : Nat) (p : Option Addr) (m cp : Nat) (xs : List Int) (w : World) (hs : Src w B b T) (hT : T ≤ 10000) (hBw : B ≤ w.heap.size) (cf : w.cell? ⟨fb, 0, none⟩ = some (.slice p m cp)) (hrow : RowI .u8 5 w lo hi (.slice p m cp) m xs) (hfb : fb ≠ b) (hlo : b < lo ∨ hi ≤ b) (hm : m ≤ 401) (hbx : Bytes xs) :
    Calls Try.prog 100 #[.pointer (some ⟨b, 0, none⟩), .pointer (some ⟨fb, 0, none⟩)] w fun e w' => ∃ (U : Nat) (z : Int) (v : Value) (bs : List Bk), e = .returned (.agg #[.int .i64 U, .int .i64 z, v]) ∧ OkC U z bs ∧ BytesB bs ∧ RowB 93 5 w' w.heap.size w'.heap.size v bs.length bs ∧ Src w' B b (T + 13) ∧ w.grownBy w' (some b) := by
  have hlt := hs.lt
  have hfl := World.block_lt_of_cell? w _ cf
  simp only at hfl
  have hx1 : xs.length ≤ 401 := by have := hrow.len; omega
  obtain ⟨_, _, hv, hmc, hcm⟩ := hrow.shape
  cases hv
  have HCM := hid hcm
  have FR0 := hid hrow
  have HBX := hid hbx
  have CF0 := hid cf
  clear hrow hbx hcm cf
  go_enter Try.func100, Try.ntmps100
  go_wp2_with fail
  have lit := lit_rd (k := .i64) (e := 2) (w.alloc (.cells #[.int .i64 0, .int .i64 0, .slice none 0 0] 26)) [1, 3, 4, 8, 64] 5 rfl (by simp [maxLen])
  rw [World.size_alloc] at lit
  refine (l1Pick_any B b T (w.heap.size + 1) 5 [1, 3, 4, 8, 64] _ ((hs.alloc _).alloc _) (by omega) rfl (by omega) (by omega) (by omega) lit).mono ?_
  rintro e w1 ⟨r, rfl, hr, hs1, hg1⟩
  obtain ⟨U, rfl, hu1, hu2⟩ : ∃ U : Nat, r = (U : Int) ∧ 1 ≤ U ∧ U ≤ 64 := by
    simp at hr
    exact ⟨r.toNat, by omega, by omega, by omega⟩
  have rb1 := Blk.kept ((Blk.new w #[.int .i64 0, .int .i64 0, .slice none 0 0] 26).alloc (.cells (([1, 3, 4, 8, 64] : List Int).map (Value.int .i64)).toArray 2)) hg1 (by simp; omega)
  have gw1 := grownBy_alloc_trans (grownBy_alloc_trans hg1)
  have hz1 := hg1.size
  simp only [World.size_alloc] at hz1
  have RB1 := hid rb1
  clear rb1 hg1 lit hr
  go_wp2_with fail
  refine (l1Next_any B b (T + 1) 4 w1 hs1 (by omega) (by omega)).mono ?_
  rintro e w2 ⟨r, rfl, hr, hs2, hg2⟩
  obtain ⟨hr0, hr1⟩ := hr.2 (by omega)
  have hE : IntKind.i64.wrap (1 + r) = 1 + r := by rw [IntKind.wrap_i64] <;> omega
  obtain ⟨z, hz⟩ : ∃ z, z = 1 + r := ⟨_, rfl⟩
  have hz1' : 1 ≤ z := by omega
  have hz4 : z ≤ 4 := by omega
  have rb2 := Blk.kept RB1.out hg2 (by simp; omega)
  have gw2 := grown_trans gw1 hg2
  have hzz2 := hg2.size
  obtain ⟨W3, hW3⟩ : ∃ W3, W3 = w2.alloc (.cells #[.int .i64 (U : Int), .int .i64 (1 + r), .slice none 0 0] 26) := ⟨_, rfl⟩
  have cb3 : Blk W3 w2.heap.size #[.int .i64 (U : Int), .int .i64 z, .slice none 0 0] 26 := by rw [hW3, hz]; exact Blk.new _ _ _
  have rb3 : Blk W3 w.heap.size #[.int .i64 0, .int .i64 0, .slice none 0 0] 26 := by rw [hW3]; exact rb2.alloc _
  have hs3 : Src W3 B b (T + 1 + 1) := by rw [hW3]; exact hs2.alloc _
  have gw3 : w.grownBy W3 (some b) := by rw [hW3]; exact grown_trans gw2 (grown_none (World.grownBy_alloc w2 _ none))
  have hz3 : W3.heap.size = w2.heap.size + 1 := by rw [hW3]; simp
  have CB3 := hid cb3
  have RB3 := hid rb3
  have HS3 := hid hs3
  clear cb3 rb3 hs3 rb2 RB1 hs2 hs1 hs hg2 gw1 gw2 hr
  go_wp2_with fail
  rw [← hW3]
  refine (l1Next_any B b (T + 1 + 1) 6 W3 HS3.out (by omega) (by omega)).mono ?_
  rintro e w4 ⟨r4, rfl, hr4, hs4, hg4⟩
  obtain ⟨hr4a, hr4b⟩ := hr4.2 (by omega)
  obtain ⟨k0, rfl⟩ := Int.eq_ofNat_of_zero_le hr4a
  have cb4 := Blk.kept CB3.out hg4 (by simp; omega)
  have rb4 := Blk.kept RB3.out hg4 (by simp; omega)
  have gw4 := grown_trans gw3 hg4
  obtain ⟨cb, hcb⟩ : ∃ cb, cb = w2.heap.size := ⟨_, rfl⟩
  have hcb1 : w.heap.size < cb := by omega
  rw [← hcb] at cb4 ⊢
  have hcf : fb ≠ cb := by omega
  have hbc : b ≠ cb := by omega
  have CB4 := hid (show Blk _ _ _ _ from cb4)
  have RB4 := hid (show Blk _ _ _ _ from rb4)
  have HS4 := hid hs4
  have GW4 := hid gw4
  clear CB3 RB3 HS3 cb4 rb4 hs4 gw4 gw3 hg4 hcb hW3 hz3 hr4 hz hE hr0 hr1
  go_wp2
  go_loopw [6] (DrInv U z w B b T fb cb p m cp) (fun k _ => (intOf k).toNat)
  case atStart =>
    exact ⟨k0, T + 1 + 1 + 1, [], none, 0, rfl, by omega, by omega, ⟨by omega, by omega, by omega, by omega, by simp; omega, by simp, by simp⟩, fun b hb => by simp at hb, CB4.out, RB4.out, RowB.nil _ _ _ _ _, HS4.out, GW4.out⟩
  case round =>
    obtain ⟨kk, T1, bs2, a2, c2, rfl, hk5, hT1, hok, hbb, hcb, hrb, hrow2, hsr, hgw⟩ := hrel
    have hzr := hgw.size
    have hcl := hcb.lt
    by_cases hk0 : 0 < kk
    · have hk0' : (0 : Int) < (kk : Int) := by omega
      have hUn : ¬ U = 0 := by omega
      have hU0 : ¬ (U : Int) = 0 := by omega
      have hwD : IntKind.i64.wrap ((m : Int) / (U : Int)) = ((m / U : Nat) : Int) := divE_is m U (by omega) hu1
      have hNb := Nat.div_le_self m U
      have hbd : ((bs2.length : Int)) + byB bs2 ≤ 1048576 := by
        have h1 := okC_byB hok
        have h2 := hok.len
        have h3 := hok.z2
        omega
      have hdr : wr.grownBy wr.drew none := ⟨rfl, rfl, rfl, Nat.le_refl _, fun _ _ _ => rfl⟩
      have hsD : Src wr.drew B b T1 := hsr.kept hdr (by simp)
      have gD : w.grownBy wr.drew (some b) := grown_trans hgw (grown_none hdr)
      have cbD : Blk wr.drew cb #[.int .i64 U, .int .i64 z, .slice a2 bs2.length c2] 26 := hcb
      have rbD : Blk wr.drew w.heap.size #[.int .i64 0, .int .i64 0, .slice none 0 0] 26 := hrb
      have rowD : RowB 93 5 wr.drew w.heap.size wr.drew.heap.size (.slice a2 bs2.length c2) bs2.length bs2 := hrow2.below ((Below.refl _ _).drew)
      have frow : RowI .u8 5 wr.drew lo hi (.slice p m cp) m xs := RowI.chg FR0.out (Chg.one gD) (by omega)
      have cfD : wr.drew.cell? ⟨fb, 0, none⟩ = some (.slice p m cp) := grown_cell gD CF0.out (fun j hj => by cases hj; simp only; omega)
      have x0 : wr.drew.cell? ⟨cb, 0, none⟩ = some (.int .i64 U) := by have q := cbD.cell 0; simpa using q
      have x1 : wr.drew.cell? ⟨cb, 1, none⟩ = some (.int .i64 z) := by have q := cbD.cell 1; simpa using q
      have x2 : wr.drew.cell? ⟨cb, 2, none⟩ = some (.slice a2 bs2.length c2) := by have q := cbD.cell 2; simpa using q
      have HSD := hid hsD
      have GD := hid gD
      have CBD := hid cbD
      have RBD := hid rbD
      have ROWD := hid rowD
      have FROW := hid frow
      have HOK := hid hok
      have HBB := hid hbb
      generalize hNe : m / U = N at hwD hNb
      clear hsD gD cbD rbD rowD frow hok hbb hcb hrb hrow2 hsr hgw hNe hdr
      go_wp2_with fail
      refine region_join (fun a a' w' => ∃ (r1 r2 : Nat) (Y : List Int) (Q : List Bk) (ya : Option Addr) (yc : Nat) (qa : Option Addr) (qc : Nat), a' = ((((((((((((((((((((a.put (some 21) (.agg #[.int .i64 U, .int .i64 z, .slice a2 bs2.length c2])).put (some 22) (.pointer (some ⟨fb, 0, none⟩))).put (some 23) (.pointer (some ⟨b, 0, none⟩))).put (some 24) (.pointer (some ⟨fb, 0, none⟩))).put (some 25) (.pointer (some ⟨fb, 0, none⟩))).put (some 26) (.pointer (some ⟨fb, 0, none⟩))).put (some 27) (.slice p m cp)).put (some 28) (.int .i64 (m : Int))).put (some 29) (.pointer (some ⟨cb, 0, none⟩))).put (some 30) (.int .i64 (U : Int))).put (some 31) (.int .i64 (N : Int))).put (some 32) (.int .i64 ((N : Int) + 2))).put (some 33) (.int .i64 (r1 : Int))).put (some 34) (.pointer (some ⟨b, 0, none⟩))).put (some 35) (.int .i64 (r2 : Int))).put (some 36) (.int .i64 (1 + (r2 : Int)))).put (some 37) (.tuple #[.slice ya Y.length yc, .agg #[.int .i64 U, .int .i64 z, .slice qa Q.length qc]])).put (some 20) (.tuple #[.slice ya Y.length yc, .agg #[.int .i64 U, .int .i64 z, .slice qa Q.length qc]])).put (some 38) (.slice ya Y.length yc)).put (some 39) (.agg #[.int .i64 U, .int .i64 z, .slice qa Q.length qc])) ∧ OkC U z Q ∧ BytesB Q ∧ Blk w' cb #[.int .i64 U, .int .i64 z, .slice qa Q.length qc] 26 ∧ Blk w' w.heap.size #[.int .i64 0, .int .i64 0, .slice none 0 0] 26 ∧ RowB 93 5 w' w.heap.size w'.heap.size (.slice qa Q.length qc) Q.length Q ∧ Src w' B b (T1 + 1 + 1) ∧ w.grownBy w' (some b)) ?_ ?_
      · refine wp_region_held_drew (S := fun w' => w'.cell? ⟨fb, 0, none⟩ = some (.slice p m cp) ∧ w'.cell? ⟨cb, 0, none⟩ = some (.int .i64 U) ∧ w'.cell? ⟨cb, 1, none⟩ = some (.int .i64 z) ∧ ∃ s, w'.cell? ⟨cb, 2, none⟩ = some s) (by kernel_rfl) (by exact ⟨cfD, x0, x1, ⟨_, x2⟩⟩) (fun hS => ?_)
        have hDz : wr.heap.size ≤ wr.drew.heap.size := Nat.le_refl _
        generalize wr.drew = D at *
        clear cfD x0 x1 x2
        refine wpAnyH_take (i := 1) (v := (.pointer (some ⟨fb, 0, none⟩))) rfl (by as_aux_lemma => kernel_rfl) (by as_aux_lemma => kernel_rfl) (by as_aux_lemma => kernel_rfl) (fun _ _ _ h => nomatch h.1) (Or.inl ⟨by kernel_rfl, ?_⟩) hS ?_
        · intro w hSw; (try dsimp only at hSw); go_simp; try first | rw [if_neg hUn, hwD] | rw [hwD] | exact hwD | rw [IntKind.wrap_i64] <;> omega
        simp only [Act.put, List.getElem_toArray, List.getElem_cons_zero, List.getElem_cons_succ, List.setIfInBounds_toArray, List.set_cons_zero, List.set_cons_succ]
        refine wpAnyH_take (i := 2) (v := (.pointer (some ⟨b, 0, none⟩))) rfl (by as_aux_lemma => kernel_rfl) (by as_aux_lemma => kernel_rfl) (by as_aux_lemma => kernel_rfl) (fun _ _ _ h => nomatch h.1) (Or.inl ⟨by kernel_rfl, ?_⟩) hS ?_
        · intro w hSw; (try dsimp only at hSw); go_simp; try first | rw [if_neg hUn, hwD] | rw [hwD] | exact hwD | rw [IntKind.wrap_i64] <;> omega
        simp only [Act.put, List.getElem_toArray, List.getElem_cons_zero, List.getElem_cons_succ, List.setIfInBounds_toArray, List.set_cons_zero, List.set_cons_succ]
        refine wpAnyH_take (i := 3) (v := (.pointer (some ⟨fb, 0, none⟩))) rfl (by as_aux_lemma => kernel_rfl) (by as_aux_lemma => kernel_rfl) (by as_aux_lemma => kernel_rfl) (fun _ _ _ h => nomatch h.1) (Or.inl ⟨by kernel_rfl, ?_⟩) hS ?_
        · intro w hSw; (try dsimp only at hSw); go_simp; try first | rw [if_neg hUn, hwD] | rw [hwD] | exact hwD | rw [IntKind.wrap_i64] <;> omega
        simp only [Act.put, List.getElem_toArray, List.getElem_cons_zero, List.getElem_cons_succ, List.setIfInBounds_toArray, List.set_cons_zero, List.set_cons_succ]
        refine wpAnyH_take (i := 4) (v := (.pointer (some ⟨fb, 0, none⟩))) rfl (by as_aux_lemma => kernel_rfl) (by as_aux_lemma => kernel_rfl) (by as_aux_lemma => kernel_rfl) (fun _ _ _ h => nomatch h.1) (Or.inl ⟨by kernel_rfl, ?_⟩) hS ?_
        · intro w hSw; (try dsimp only at hSw); go_simp; try first | rw [if_neg hUn, hwD] | rw [hwD] | exact hwD | rw [IntKind.wrap_i64] <;> omega
        simp only [Act.put, List.getElem_toArray, List.getElem_cons_zero, List.getElem_cons_succ, List.setIfInBounds_toArray, List.set_cons_zero, List.set_cons_succ]
        refine wpAnyH_take (i := 5) (v := (.pointer (some ⟨fb, 0, none⟩))) rfl (by as_aux_lemma => kernel_rfl) (by as_aux_lemma => kernel_rfl) (by as_aux_lemma => kernel_rfl) (fun _ _ _ h => nomatch h.1) (Or.inl ⟨by kernel_rfl, ?_⟩) hS ?_
        · intro w hSw; (try dsimp only at hSw); go_simp; try first | rw [if_neg hUn, hwD] | rw [hwD] | exact hwD | rw [IntKind.wrap_i64] <;> omega
        simp only [Act.put, List.getElem_toArray, List.getElem_cons_zero, List.getElem_cons_succ, List.setIfInBounds_toArray, List.set_cons_zero, List.set_cons_succ]
        refine wpAnyH_take (i := 6) (v := (.slice p m cp)) rfl (by as_aux_lemma => kernel_rfl) (by as_aux_lemma => kernel_rfl) (by as_aux_lemma => kernel_rfl) (fun _ _ _ h => nomatch h.1) (Or.inl ⟨by kernel_rfl, ?_⟩) hS ?_
        · intro w hSw; (try dsimp only at hSw); go_simp; try first | rw [if_neg hUn, hwD] | rw [hwD] | exact hwD | rw [IntKind.wrap_i64] <;> omega
        simp only [Act.put, List.getElem_toArray, List.getElem_cons_zero, List.getElem_cons_succ, List.setIfInBounds_toArray, List.set_cons_zero, List.set_cons_succ]
        refine wpAnyH_take (i := 7) (v := (.int .i64 (m : Int))) rfl (by as_aux_lemma => kernel_rfl) (by as_aux_lemma => kernel_rfl) (by as_aux_lemma => kernel_rfl) (fun _ _ _ h => nomatch h.1) (Or.inl ⟨by kernel_rfl, ?_⟩) hS ?_
        · intro w hSw; (try dsimp only at hSw); go_simp; try first | rw [if_neg hUn, hwD] | rw [hwD] | exact hwD | rw [IntKind.wrap_i64] <;> omega
        simp only [Act.put, List.getElem_toArray, List.getElem_cons_zero, List.getElem_cons_succ, List.setIfInBounds_toArray, List.set_cons_zero, List.set_cons_succ]
        refine wpAnyH_take (i := 8) (v := (.pointer (some ⟨cb, 0, none⟩))) rfl (by as_aux_lemma => kernel_rfl) (by as_aux_lemma => kernel_rfl) (by as_aux_lemma => kernel_rfl) (fun _ _ _ h => nomatch h.1) (Or.inl ⟨by kernel_rfl, ?_⟩) hS ?_
        · intro w hSw; (try dsimp only at hSw); go_simp; try first | rw [if_neg hUn, hwD] | rw [hwD] | exact hwD | rw [IntKind.wrap_i64] <;> omega
        simp only [Act.put, List.getElem_toArray, List.getElem_cons_zero, List.getElem_cons_succ, List.setIfInBounds_toArray, List.set_cons_zero, List.set_cons_succ]
        refine wpAnyH_take (i := 9) (v := (.int .i64 (U : Int))) rfl (by as_aux_lemma => kernel_rfl) (by as_aux_lemma => kernel_rfl) (by as_aux_lemma => kernel_rfl) (fun _ _ _ h => nomatch h.1) (Or.inl ⟨by kernel_rfl, ?_⟩) hS ?_
        · intro w hSw; (try dsimp only at hSw); go_simp; try first | rw [if_neg hUn, hwD] | rw [hwD] | exact hwD | rw [IntKind.wrap_i64] <;> omega
        simp only [Act.put, List.getElem_toArray, List.getElem_cons_zero, List.getElem_cons_succ, List.setIfInBounds_toArray, List.set_cons_zero, List.set_cons_succ]
        refine wpAnyH_take (i := 10) (v := (.int .i64 (N : Int))) rfl (by as_aux_lemma => kernel_rfl) (by as_aux_lemma => kernel_rfl) (by as_aux_lemma => kernel_rfl) (fun _ _ _ h => nomatch h.1) (Or.inl ⟨by kernel_rfl, ?_⟩) hS ?_
        · intro w hSw; (try dsimp only at hSw); go_simp; try first | rw [if_neg hUn, hwD] | rw [hwD] | exact hwD | rw [IntKind.wrap_i64] <;> omega
        simp only [Act.put, List.getElem_toArray, List.getElem_cons_zero, List.getElem_cons_succ, List.setIfInBounds_toArray, List.set_cons_zero, List.set_cons_succ]
        refine wpAnyH_take (i := 11) (v := (.int .i64 ((N : Int) + 2))) rfl (by as_aux_lemma => kernel_rfl) (by as_aux_lemma => kernel_rfl) (by as_aux_lemma => kernel_rfl) (fun _ _ _ h => nomatch h.1) (Or.inl ⟨by kernel_rfl, ?_⟩) hS ?_
        · intro w hSw; (try dsimp only at hSw); go_simp; try first | rw [if_neg hUn, hwD] | rw [hwD] | exact hwD | rw [IntKind.wrap_i64] <;> omega
        simp only [Act.put, List.getElem_toArray, List.getElem_cons_zero, List.getElem_cons_succ, List.setIfInBounds_toArray, List.set_cons_zero, List.set_cons_succ]
        refine wpAnyH_take (i := 13) (v := (.pointer (some ⟨b, 0, none⟩))) rfl (by as_aux_lemma => kernel_rfl) (by as_aux_lemma => kernel_rfl) (by as_aux_lemma => kernel_rfl) (fun _ _ _ h => nomatch h.1) (Or.inl ⟨by kernel_rfl, ?_⟩) hS ?_
        · intro w hSw; (try dsimp only at hSw); go_simp; try first | rw [if_neg hUn, hwD] | rw [hwD] | exact hwD | rw [IntKind.wrap_i64] <;> omega
        simp only [Act.put, List.getElem_toArray, List.getElem_cons_zero, List.getElem_cons_succ, List.setIfInBounds_toArray, List.set_cons_zero, List.set_cons_succ]
        refine wpAnyH_ready (rs := [0, 12]) (by as_aux_lemma => kernel_rfl) (by simp) ?_
        refine AllReadyH.cons rfl (fun K hK => ?_) (AllReadyH.cons rfl (fun K hK => ?_) AllReadyH.nil)
        · skip
          have k0 : D.cell? ⟨cb, 0, none⟩ = some (.int .i64 U) := hS.2.1
          have k1 : D.cell? ⟨cb, 1, none⟩ = some (.int .i64 z) := hS.2.2.1
          have k2 : D.cell? ⟨cb, 2, none⟩ = some (.slice a2 bs2.length c2) := by have q := (Blk.kept CBD.out (World.grownBy.refl D (some b)) (by simp; omega)).cell 2; simpa using q
          go_simp
          refine hK.out _ _ hS (fun hS => ?_)
          clear hK K
          (try simp only [Act.put, List.getElem_toArray, List.getElem_cons_zero, List.getElem_cons_succ, List.setIfInBounds_toArray, List.set_cons_zero, List.set_cons_succ])
          clear k0 k1 k2
          refine wpAnyH_ready (rs := [12]) (by as_aux_lemma => kernel_rfl) (by simp) ?_
          refine AllReadyH.cons rfl (fun K hK => ?_) AllReadyH.nil
          go_simp
          refine (l1Next_any B b T1 ((N : Int) + 2) D HSD.out (by omega) (by omega)).mono ?_
          rintro e w1 ⟨q1, rfl, hr1, hs1, hg1⟩
          obtain ⟨hr1a, hr1b⟩ := hr1.2 (by omega)
          obtain ⟨r1, rfl⟩ := Int.eq_ofNat_of_zero_le hr1a
          have gg1 := grown_trans (World.grownBy.refl D (some b)) hg1
          have hzg1 := gg1.size
          refine hK.out _ _ ⟨grown_cell hg1 hS.1 (fun j hj => by cases hj; simp only; omega), grown_cell hg1 hS.2.1 (fun j hj => by cases hj; simp only; omega), grown_cell hg1 hS.2.2.1 (fun j hj => by cases hj; simp only; omega), ⟨_, grown_cell hg1 hS.2.2.2.choose_spec (fun j hj => by cases hj; simp only; omega)⟩⟩ (fun hS => ?_)
          clear hK K
          (try simp only [Act.put, List.getElem_toArray, List.getElem_cons_zero, List.getElem_cons_succ, List.setIfInBounds_toArray, List.set_cons_zero, List.set_cons_succ])
          refine wpAnyH_ready (rs := [14]) (by as_aux_lemma => kernel_rfl) (by simp) ?_
          refine AllReadyH.cons rfl (fun K hK => ?_) AllReadyH.nil
          go_simp
          refine (l1Next_any B b (T1 + 1) 5 w1 hs1 (by omega) (by omega)).mono ?_
          rintro e w2 ⟨q2, rfl, hr2, hs2, hg2⟩
          obtain ⟨hr2a, hr2b⟩ := hr2.2 (by omega)
          obtain ⟨r2, rfl⟩ := Int.eq_ofNat_of_zero_le hr2a
          have gg2 := grown_trans gg1 hg2
          have hzg2 := gg2.size
          refine hK.out _ _ ⟨grown_cell hg2 hS.1 (fun j hj => by cases hj; simp only; omega), grown_cell hg2 hS.2.1 (fun j hj => by cases hj; simp only; omega), grown_cell hg2 hS.2.2.1 (fun j hj => by cases hj; simp only; omega), ⟨_, grown_cell hg2 hS.2.2.2.choose_spec (fun j hj => by cases hj; simp only; omega)⟩⟩ (fun hS => ?_)
          clear hK K
          (try simp only [Act.put, List.getElem_toArray, List.getElem_cons_zero, List.getElem_cons_succ, List.setIfInBounds_toArray, List.set_cons_zero, List.set_cons_succ])
          refine wpAnyH_take (i := 15) (v := (.int .i64 (1 + (r2 : Int)))) rfl (by as_aux_lemma => kernel_rfl) (by as_aux_lemma => kernel_rfl) (by as_aux_lemma => kernel_rfl) (fun _ _ _ h => nomatch h.1) (Or.inl ⟨by kernel_rfl, ?_⟩) hS ?_
          · intro w hSw; (try dsimp only at hSw); go_simp; try first | rw [if_neg hUn, hwD] | rw [hwD] | exact hwD | rw [IntKind.wrap_i64] <;> omega
          simp only [Act.put, List.getElem_toArray, List.getElem_cons_zero, List.getElem_cons_succ, List.setIfInBounds_toArray, List.set_cons_zero, List.set_cons_succ]
          refine wpAnyH_ready (rs := [16]) (by as_aux_lemma => kernel_rfl) (by simp) ?_
          refine AllReadyH.cons rfl (fun K hK => ?_) AllReadyH.nil
          go_simp
          refine Calls.mono (l3Fetch_any fb (U : Int) z a2 bs2.length c2 bs2 p m cp xs U r1 (1 + r2) w2 hS.1 (RowB.chg ROWD.out (Chg.one gg2) (.inr (by omega))).read (RowI.chg FROW.out (Chg.one gg2) (by omega)).read HOK.out rfl hbd (by omega) hmc HCM.out (by omega) (by omega) (by omega)) ?_
          rintro e w5 ⟨v5, v6, rfl, hy5, hr5, hb5⟩
          obtain ⟨ya, yc, rfl, -, -⟩ := hy5.shape
          obtain ⟨qa, qc, rfl, -, -⟩ := hr5.shape
          have hQ := okC_ft1 HOK.out hx1 r1
          have hQb := bytes_ft HBB.out HBX.out z U r1
          generalize ftB U bs2 xs r1 = Y at hy5 hr5 hQ hQb ⊢
          generalize ftQ z bs2 (r1 : Int) Y = Q at hr5 hQ hQb ⊢
          have gg5 := grown_trans gg2 (grown_none (row := some b) (grownBy_of_below hb5))
          have cb5 := Blk.kept CBD.out gg5 (by simp; omega)
          have rb5 := Blk.kept RBD.out gg5 (by simp; omega)
          have hs5 := Src.kept hs2 (grownBy_of_below hb5) (by simp)
          have k0 := cb5.cell 0
          have k1 := cb5.cell 1
          have k2 := cb5.cell 2
          have kf0 := cb5.frozen 0
          have kf1 := cb5.frozen 1
          have kf2 := cb5.frozen 2
          simp at k0 k1 k2
          have hz5 := gg5.size
          refine hK.out _ _ ⟨cell_later hb5 hS.1, k0, k1, ⟨_, k2⟩⟩ (fun hS => ?_)
          clear hK K
          (try simp only [Act.put, List.getElem_toArray, List.getElem_cons_zero, List.getElem_cons_succ, List.setIfInBounds_toArray, List.set_cons_zero, List.set_cons_succ])
          refine wpAnyH_take (i := 17) (v := (.tuple #[.slice ya Y.length yc, .agg #[.int .i64 U, .int .i64 z, .slice qa Q.length qc]])) rfl (by as_aux_lemma => kernel_rfl) (by as_aux_lemma => kernel_rfl) (by as_aux_lemma => kernel_rfl) (fun _ _ _ h => nomatch h.1) (Or.inl ⟨by kernel_rfl, ?_⟩) hS ?_
          · intro w hSw; (try dsimp only at hSw); go_simp; try first | rw [if_neg hUn, hwD] | rw [hwD] | exact hwD | rw [IntKind.wrap_i64] <;> omega
          simp only [Act.put, List.getElem_toArray, List.getElem_cons_zero, List.getElem_cons_succ, List.setIfInBounds_toArray, List.set_cons_zero, List.set_cons_succ]
          refine wpAnyH_take (i := 18) (v := (.slice ya Y.length yc)) rfl (by as_aux_lemma => kernel_rfl) (by as_aux_lemma => kernel_rfl) (by as_aux_lemma => kernel_rfl) (fun _ _ _ h => nomatch h.1) (Or.inl ⟨by kernel_rfl, ?_⟩) hS ?_
          · intro w hSw; (try dsimp only at hSw); go_simp; try first | rw [if_neg hUn, hwD] | rw [hwD] | exact hwD | rw [IntKind.wrap_i64] <;> omega
          simp only [Act.put, List.getElem_toArray, List.getElem_cons_zero, List.getElem_cons_succ, List.setIfInBounds_toArray, List.set_cons_zero, List.set_cons_succ]
          refine wpAnyH_take (i := 19) (v := (.agg #[.int .i64 U, .int .i64 z, .slice qa Q.length qc])) rfl (by as_aux_lemma => kernel_rfl) (by as_aux_lemma => kernel_rfl) (by as_aux_lemma => kernel_rfl) (fun _ _ _ h => nomatch h.1) (Or.inl ⟨by kernel_rfl, ?_⟩) hS ?_
          · intro w hSw; (try dsimp only at hSw); go_simp; try first | rw [if_neg hUn, hwD] | rw [hwD] | exact hwD | rw [IntKind.wrap_i64] <;> omega
          simp only [Act.put, List.getElem_toArray, List.getElem_cons_zero, List.getElem_cons_succ, List.setIfInBounds_toArray, List.set_cons_zero, List.set_cons_succ]
          refine wpAnyH_ready (rs := [20]) (by as_aux_lemma => kernel_rfl) (by simp) ?_
          refine AllReadyH.cons rfl (fun K hK => ?_) AllReadyH.nil
          go_simp
          have cb6 := ((cb5.set (i := 0) (.int .i64 U)).set (i := 1) (.int .i64 z)).set (i := 2) (.slice qa Q.length qc)
          have hg6 : w5.grownBy (((w5.setCell ⟨cb, 0, none⟩ (.int .i64 U)).setCell ⟨cb, 1, none⟩ (.int .i64 z)).setCell ⟨cb, 2, none⟩ (.slice qa Q.length qc)) (some cb) := grownT (grownT (set_grown _ _ _ _) (set_grown _ _ _ _)) (set_grown _ _ _ _)
          refine hK.out _ _ ⟨grown_cell hg6 hS.1 (fun j hj => by cases hj; simp only; omega), by simpa using cb6.cell 0, by simpa using cb6.cell 1, ⟨_, by simpa using cb6.cell 2⟩⟩ (fun hS => ?_)
          clear hK K
          (try simp only [Act.put, List.getElem_toArray, List.getElem_cons_zero, List.getElem_cons_succ, List.setIfInBounds_toArray, List.set_cons_zero, List.set_cons_succ])
          refine wpAnyH_done (by kernel_rfl) ?_ _
          refine ⟨rfl, r1, r2, Y, Q, ya, yc, qa, qc, ?_, hQ, hQb, by simpa using cb6, Blk.kept rb5 hg6 (by simp; omega), (RowB.apart hr5 cb5 (by decide) (by decide) hg6).mono (by omega) hg6.size, ?_, ?_⟩
          · simp only [Act.put, List.getElem_toArray, List.getElem_cons_zero, List.getElem_cons_succ, List.setIfInBounds_toArray, List.set_cons_zero, List.set_cons_succ]
          · exact hs5.kept hg6 (fun j hj => by cases hj; exact ⟨by omega, by omega⟩)
          · exact grown_mix (grown_trans GD.out gg5) hg6 (fun j hj => by cases hj; omega)
        · skip
          go_simp
          refine (l1Next_any B b T1 ((N : Int) + 2) D HSD.out (by omega) (by omega)).mono ?_
          rintro e w1 ⟨q1, rfl, hr1, hs1, hg1⟩
          obtain ⟨hr1a, hr1b⟩ := hr1.2 (by omega)
          obtain ⟨r1, rfl⟩ := Int.eq_ofNat_of_zero_le hr1a
          have gg1 := grown_trans (World.grownBy.refl D (some b)) hg1
          have hzg1 := gg1.size
          refine hK.out _ _ ⟨grown_cell hg1 hS.1 (fun j hj => by cases hj; simp only; omega), grown_cell hg1 hS.2.1 (fun j hj => by cases hj; simp only; omega), grown_cell hg1 hS.2.2.1 (fun j hj => by cases hj; simp only; omega), ⟨_, grown_cell hg1 hS.2.2.2.choose_spec (fun j hj => by cases hj; simp only; omega)⟩⟩ (fun hS => ?_)
          clear hK K
          (try simp only [Act.put, List.getElem_toArray, List.getElem_cons_zero, List.getElem_cons_succ, List.setIfInBounds_toArray, List.set_cons_zero, List.set_cons_succ])
          refine wpAnyH_ready (rs := [0, 14]) (by as_aux_lemma => kernel_rfl) (by simp) ?_
          refine AllReadyH.cons rfl (fun K hK => ?_) (AllReadyH.cons rfl (fun K hK => ?_) AllReadyH.nil)
          · skip
            have k0 : w1.cell? ⟨cb, 0, none⟩ = some (.int .i64 U) := hS.2.1
            have k1 : w1.cell? ⟨cb, 1, none⟩ = some (.int .i64 z) := hS.2.2.1
            have k2 : w1.cell? ⟨cb, 2, none⟩ = some (.slice a2 bs2.length c2) := by have q := (Blk.kept CBD.out gg1 (by simp; omega)).cell 2; simpa using q
            go_simp
            refine hK.out _ _ hS (fun hS => ?_)
            clear hK K
            (try simp only [Act.put, List.getElem_toArray, List.getElem_cons_zero, List.getElem_cons_succ, List.setIfInBounds_toArray, List.set_cons_zero, List.set_cons_succ])
            clear k0 k1 k2
            refine wpAnyH_ready (rs := [14]) (by as_aux_lemma => kernel_rfl) (by simp) ?_
            refine AllReadyH.cons rfl (fun K hK => ?_) AllReadyH.nil
            go_simp
            refine (l1Next_any B b (T1 + 1) 5 w1 hs1 (by omega) (by omega)).mono ?_
            rintro e w2 ⟨q2, rfl, hr2, hs2, hg2⟩
            obtain ⟨hr2a, hr2b⟩ := hr2.2 (by omega)
            obtain ⟨r2, rfl⟩ := Int.eq_ofNat_of_zero_le hr2a
            have gg2 := grown_trans gg1 hg2
            have hzg2 := gg2.size
            refine hK.out _ _ ⟨grown_cell hg2 hS.1 (fun j hj => by cases hj; simp only; omega), grown_cell hg2 hS.2.1 (fun j hj => by cases hj; simp only; omega), grown_cell hg2 hS.2.2.1 (fun j hj => by cases hj; simp only; omega), ⟨_, grown_cell hg2 hS.2.2.2.choose_spec (fun j hj => by cases hj; simp only; omega)⟩⟩ (fun hS => ?_)
            clear hK K
            (try simp only [Act.put, List.getElem_toArray, List.getElem_cons_zero, List.getElem_cons_succ, List.setIfInBounds_toArray, List.set_cons_zero, List.set_cons_succ])
            refine wpAnyH_take (i := 15) (v := (.int .i64 (1 + (r2 : Int)))) rfl (by as_aux_lemma => kernel_rfl) (by as_aux_lemma => kernel_rfl) (by as_aux_lemma => kernel_rfl) (fun _ _ _ h => nomatch h.1) (Or.inl ⟨by kernel_rfl, ?_⟩) hS ?_
            · intro w hSw; (try dsimp only at hSw); go_simp; try first | rw [if_neg hUn, hwD] | rw [hwD] | exact hwD | rw [IntKind.wrap_i64] <;> omega
            simp only [Act.put, List.getElem_toArray, List.getElem_cons_zero, List.getElem_cons_succ, List.setIfInBounds_toArray, List.set_cons_zero, List.set_cons_succ]
            refine wpAnyH_ready (rs := [16]) (by as_aux_lemma => kernel_rfl) (by simp) ?_
            refine AllReadyH.cons rfl (fun K hK => ?_) AllReadyH.nil
            go_simp
            refine Calls.mono (l3Fetch_any fb (U : Int) z a2 bs2.length c2 bs2 p m cp xs U r1 (1 + r2) w2 hS.1 (RowB.chg ROWD.out (Chg.one gg2) (.inr (by omega))).read (RowI.chg FROW.out (Chg.one gg2) (by omega)).read HOK.out rfl hbd (by omega) hmc HCM.out (by omega) (by omega) (by omega)) ?_
            rintro e w5 ⟨v5, v6, rfl, hy5, hr5, hb5⟩
            obtain ⟨ya, yc, rfl, -, -⟩ := hy5.shape
            obtain ⟨qa, qc, rfl, -, -⟩ := hr5.shape
            have hQ := okC_ft1 HOK.out hx1 r1
            have hQb := bytes_ft HBB.out HBX.out z U r1
            generalize ftB U bs2 xs r1 = Y at hy5 hr5 hQ hQb ⊢
            generalize ftQ z bs2 (r1 : Int) Y = Q at hr5 hQ hQb ⊢
            have gg5 := grown_trans gg2 (grown_none (row := some b) (grownBy_of_below hb5))
            have cb5 := Blk.kept CBD.out gg5 (by simp; omega)
            have rb5 := Blk.kept RBD.out gg5 (by simp; omega)
            have hs5 := Src.kept hs2 (grownBy_of_below hb5) (by simp)
            have k0 := cb5.cell 0
            have k1 := cb5.cell 1
            have k2 := cb5.cell 2
            have kf0 := cb5.frozen 0
            have kf1 := cb5.frozen 1
            have kf2 := cb5.frozen 2
            simp at k0 k1 k2
            have hz5 := gg5.size
            refine hK.out _ _ ⟨cell_later hb5 hS.1, k0, k1, ⟨_, k2⟩⟩ (fun hS => ?_)
            clear hK K
            (try simp only [Act.put, List.getElem_toArray, List.getElem_cons_zero, List.getElem_cons_succ, List.setIfInBounds_toArray, List.set_cons_zero, List.set_cons_succ])
            refine wpAnyH_take (i := 17) (v := (.tuple #[.slice ya Y.length yc, .agg #[.int .i64 U, .int .i64 z, .slice qa Q.length qc]])) rfl (by as_aux_lemma => kernel_rfl) (by as_aux_lemma => kernel_rfl) (by as_aux_lemma => kernel_rfl) (fun _ _ _ h => nomatch h.1) (Or.inl ⟨by kernel_rfl, ?_⟩) hS ?_
            · intro w hSw; (try dsimp only at hSw); go_simp; try first | rw [if_neg hUn, hwD] | rw [hwD] | exact hwD | rw [IntKind.wrap_i64] <;> omega
            simp only [Act.put, List.getElem_toArray, List.getElem_cons_zero, List.getElem_cons_succ, List.setIfInBounds_toArray, List.set_cons_zero, List.set_cons_succ]
            refine wpAnyH_take (i := 18) (v := (.slice ya Y.length yc)) rfl (by as_aux_lemma => kernel_rfl) (by as_aux_lemma => kernel_rfl) (by as_aux_lemma => kernel_rfl) (fun _ _ _ h => nomatch h.1) (Or.inl ⟨by kernel_rfl, ?_⟩) hS ?_
            · intro w hSw; (try dsimp only at hSw); go_simp; try first | rw [if_neg hUn, hwD] | rw [hwD] | exact hwD | rw [IntKind.wrap_i64] <;> omega
            simp only [Act.put, List.getElem_toArray, List.getElem_cons_zero, List.getElem_cons_succ, List.setIfInBounds_toArray, List.set_cons_zero, List.set_cons_succ]
            refine wpAnyH_take (i := 19) (v := (.agg #[.int .i64 U, .int .i64 z, .slice qa Q.length qc])) rfl (by as_aux_lemma => kernel_rfl) (by as_aux_lemma => kernel_rfl) (by as_aux_lemma => kernel_rfl) (fun _ _ _ h => nomatch h.1) (Or.inl ⟨by kernel_rfl, ?_⟩) hS ?_
            · intro w hSw; (try dsimp only at hSw); go_simp; try first | rw [if_neg hUn, hwD] | rw [hwD] | exact hwD | rw [IntKind.wrap_i64] <;> omega
            simp only [Act.put, List.getElem_toArray, List.getElem_cons_zero, List.getElem_cons_succ, List.setIfInBounds_toArray, List.set_cons_zero, List.set_cons_succ]
            refine wpAnyH_ready (rs := [20]) (by as_aux_lemma => kernel_rfl) (by simp) ?_
            refine AllReadyH.cons rfl (fun K hK => ?_) AllReadyH.nil
            go_simp
            have cb6 := ((cb5.set (i := 0) (.int .i64 U)).set (i := 1) (.int .i64 z)).set (i := 2) (.slice qa Q.length qc)
            have hg6 : w5.grownBy (((w5.setCell ⟨cb, 0, none⟩ (.int .i64 U)).setCell ⟨cb, 1, none⟩ (.int .i64 z)).setCell ⟨cb, 2, none⟩ (.slice qa Q.length qc)) (some cb) := grownT (grownT (set_grown _ _ _ _) (set_grown _ _ _ _)) (set_grown _ _ _ _)
            refine hK.out _ _ ⟨grown_cell hg6 hS.1 (fun j hj => by cases hj; simp only; omega), by simpa using cb6.cell 0, by simpa using cb6.cell 1, ⟨_, by simpa using cb6.cell 2⟩⟩ (fun hS => ?_)
            clear hK K
            (try simp only [Act.put, List.getElem_toArray, List.getElem_cons_zero, List.getElem_cons_succ, List.setIfInBounds_toArray, List.set_cons_zero, List.set_cons_succ])
            refine wpAnyH_done (by kernel_rfl) ?_ _
            refine ⟨rfl, r1, r2, Y, Q, ya, yc, qa, qc, ?_, hQ, hQb, by simpa using cb6, Blk.kept rb5 hg6 (by simp; omega), (RowB.apart hr5 cb5 (by decide) (by decide) hg6).mono (by omega) hg6.size, ?_, ?_⟩
            · simp only [Act.put, List.getElem_toArray, List.getElem_cons_zero, List.getElem_cons_succ, List.setIfInBounds_toArray, List.set_cons_zero, List.set_cons_succ]
            · exact hs5.kept hg6 (fun j hj => by cases hj; exact ⟨by omega, by omega⟩)
            · exact grown_mix (grown_trans GD.out gg5) hg6 (fun j hj => by cases hj; omega)
          · skip
            go_simp
            refine (l1Next_any B b (T1 + 1) 5 w1 hs1 (by omega) (by omega)).mono ?_
            rintro e w2 ⟨q2, rfl, hr2, hs2, hg2⟩
            obtain ⟨hr2a, hr2b⟩ := hr2.2 (by omega)
            obtain ⟨r2, rfl⟩ := Int.eq_ofNat_of_zero_le hr2a
            have gg2 := grown_trans gg1 hg2
            have hzg2 := gg2.size
            refine hK.out _ _ ⟨grown_cell hg2 hS.1 (fun j hj => by cases hj; simp only; omega), grown_cell hg2 hS.2.1 (fun j hj => by cases hj; simp only; omega), grown_cell hg2 hS.2.2.1 (fun j hj => by cases hj; simp only; omega), ⟨_, grown_cell hg2 hS.2.2.2.choose_spec (fun j hj => by cases hj; simp only; omega)⟩⟩ (fun hS => ?_)
            clear hK K
            (try simp only [Act.put, List.getElem_toArray, List.getElem_cons_zero, List.getElem_cons_succ, List.setIfInBounds_toArray, List.set_cons_zero, List.set_cons_succ])
            refine wpAnyH_take (i := 15) (v := (.int .i64 (1 + (r2 : Int)))) rfl (by as_aux_lemma => kernel_rfl) (by as_aux_lemma => kernel_rfl) (by as_aux_lemma => kernel_rfl) (fun _ _ _ h => nomatch h.1) (Or.inl ⟨by kernel_rfl, ?_⟩) hS ?_
            · intro w hSw; (try dsimp only at hSw); go_simp; try first | rw [if_neg hUn, hwD] | rw [hwD] | exact hwD | rw [IntKind.wrap_i64] <;> omega
            simp only [Act.put, List.getElem_toArray, List.getElem_cons_zero, List.getElem_cons_succ, List.setIfInBounds_toArray, List.set_cons_zero, List.set_cons_succ]
            refine wpAnyH_ready (rs := [0]) (by as_aux_lemma => kernel_rfl) (by simp) ?_
            refine AllReadyH.cons rfl (fun K hK => ?_) AllReadyH.nil
            have k0 : w2.cell? ⟨cb, 0, none⟩ = some (.int .i64 U) := hS.2.1
            have k1 : w2.cell? ⟨cb, 1, none⟩ = some (.int .i64 z) := hS.2.2.1
            have k2 : w2.cell? ⟨cb, 2, none⟩ = some (.slice a2 bs2.length c2) := by have q := (Blk.kept CBD.out gg2 (by simp; omega)).cell 2; simpa using q
            go_simp
            refine hK.out _ _ hS (fun hS => ?_)
            clear hK K
            (try simp only [Act.put, List.getElem_toArray, List.getElem_cons_zero, List.getElem_cons_succ, List.setIfInBounds_toArray, List.set_cons_zero, List.set_cons_succ])
            clear k0 k1 k2
            refine wpAnyH_ready (rs := [16]) (by as_aux_lemma => kernel_rfl) (by simp) ?_
            refine AllReadyH.cons rfl (fun K hK => ?_) AllReadyH.nil
            go_simp
            refine Calls.mono (l3Fetch_any fb (U : Int) z a2 bs2.length c2 bs2 p m cp xs U r1 (1 + r2) w2 hS.1 (RowB.chg ROWD.out (Chg.one gg2) (.inr (by omega))).read (RowI.chg FROW.out (Chg.one gg2) (by omega)).read HOK.out rfl hbd (by omega) hmc HCM.out (by omega) (by omega) (by omega)) ?_
            rintro e w5 ⟨v5, v6, rfl, hy5, hr5, hb5⟩
            obtain ⟨ya, yc, rfl, -, -⟩ := hy5.shape
            obtain ⟨qa, qc, rfl, -, -⟩ := hr5.shape
            have hQ := okC_ft1 HOK.out hx1 r1
            have hQb := bytes_ft HBB.out HBX.out z U r1
            generalize ftB U bs2 xs r1 = Y at hy5 hr5 hQ hQb ⊢
            generalize ftQ z bs2 (r1 : Int) Y = Q at hr5 hQ hQb ⊢
            have gg5 := grown_trans gg2 (grown_none (row := some b) (grownBy_of_below hb5))
            have cb5 := Blk.kept CBD.out gg5 (by simp; omega)
            have rb5 := Blk.kept RBD.out gg5 (by simp; omega)
            have hs5 := Src.kept hs2 (grownBy_of_below hb5) (by simp)
            have k0 := cb5.cell 0
            have k1 := cb5.cell 1
            have k2 := cb5.cell 2
            have kf0 := cb5.frozen 0
            have kf1 := cb5.frozen 1
            have kf2 := cb5.frozen 2
            simp at k0 k1 k2
            have hz5 := gg5.size
            refine hK.out _ _ ⟨cell_later hb5 hS.1, k0, k1, ⟨_, k2⟩⟩ (fun hS => ?_)
            clear hK K
            (try simp only [Act.put, List.getElem_toArray, List.getElem_cons_zero, List.getElem_cons_succ, List.setIfInBounds_toArray, List.set_cons_zero, List.set_cons_succ])
            refine wpAnyH_take (i := 17) (v := (.tuple #[.slice ya Y.length yc, .agg #[.int .i64 U, .int .i64 z, .slice qa Q.length qc]])) rfl (by as_aux_lemma => kernel_rfl) (by as_aux_lemma => kernel_rfl) (by as_aux_lemma => kernel_rfl) (fun _ _ _ h => nomatch h.1) (Or.inl ⟨by kernel_rfl, ?_⟩) hS ?_
            · intro w hSw; (try dsimp only at hSw); go_simp; try first | rw [if_neg hUn, hwD] | rw [hwD] | exact hwD | rw [IntKind.wrap_i64] <;> omega
            simp only [Act.put, List.getElem_toArray, List.getElem_cons_zero, List.getElem_cons_succ, List.setIfInBounds_toArray, List.set_cons_zero, List.set_cons_succ]
            refine wpAnyH_take (i := 18) (v := (.slice ya Y.length yc)) rfl (by as_aux_lemma => kernel_rfl) (by as_aux_lemma => kernel_rfl) (by as_aux_lemma => kernel_rfl) (fun _ _ _ h => nomatch h.1) (Or.inl ⟨by kernel_rfl, ?_⟩) hS ?_
            · intro w hSw; (try dsimp only at hSw); go_simp; try first | rw [if_neg hUn, hwD] | rw [hwD] | exact hwD | rw [IntKind.wrap_i64] <;> omega
            simp only [Act.put, List.getElem_toArray, List.getElem_cons_zero, List.getElem_cons_succ, List.setIfInBounds_toArray, List.set_cons_zero, List.set_cons_succ]
            refine wpAnyH_take (i := 19) (v := (.agg #[.int .i64 U, .int .i64 z, .slice qa Q.length qc])) rfl (by as_aux_lemma => kernel_rfl) (by as_aux_lemma => kernel_rfl) (by as_aux_lemma => kernel_rfl) (fun _ _ _ h => nomatch h.1) (Or.inl ⟨by kernel_rfl, ?_⟩) hS ?_
            · intro w hSw; (try dsimp only at hSw); go_simp; try first | rw [if_neg hUn, hwD] | rw [hwD] | exact hwD | rw [IntKind.wrap_i64] <;> omega
            simp only [Act.put, List.getElem_toArray, List.getElem_cons_zero, List.getElem_cons_succ, List.setIfInBounds_toArray, List.set_cons_zero, List.set_cons_succ]
            refine wpAnyH_ready (rs := [20]) (by as_aux_lemma => kernel_rfl) (by simp) ?_
            refine AllReadyH.cons rfl (fun K hK => ?_) AllReadyH.nil
            go_simp
            have cb6 := ((cb5.set (i := 0) (.int .i64 U)).set (i := 1) (.int .i64 z)).set (i := 2) (.slice qa Q.length qc)
            have hg6 : w5.grownBy (((w5.setCell ⟨cb, 0, none⟩ (.int .i64 U)).setCell ⟨cb, 1, none⟩ (.int .i64 z)).setCell ⟨cb, 2, none⟩ (.slice qa Q.length qc)) (some cb) := grownT (grownT (set_grown _ _ _ _) (set_grown _ _ _ _)) (set_grown _ _ _ _)
            refine hK.out _ _ ⟨grown_cell hg6 hS.1 (fun j hj => by cases hj; simp only; omega), by simpa using cb6.cell 0, by simpa using cb6.cell 1, ⟨_, by simpa using cb6.cell 2⟩⟩ (fun hS => ?_)
            clear hK K
            (try simp only [Act.put, List.getElem_toArray, List.getElem_cons_zero, List.getElem_cons_succ, List.setIfInBounds_toArray, List.set_cons_zero, List.set_cons_succ])
            refine wpAnyH_done (by kernel_rfl) ?_ _
            refine ⟨rfl, r1, r2, Y, Q, ya, yc, qa, qc, ?_, hQ, hQb, by simpa using cb6, Blk.kept rb5 hg6 (by simp; omega), (RowB.apart hr5 cb5 (by decide) (by decide) hg6).mono (by omega) hg6.size, ?_, ?_⟩
            · simp only [Act.put, List.getElem_toArray, List.getElem_cons_zero, List.getElem_cons_succ, List.setIfInBounds_toArray, List.set_cons_zero, List.set_cons_succ]
            · exact hs5.kept hg6 (fun j hj => by cases hj; exact ⟨by omega, by omega⟩)
            · exact grown_mix (grown_trans GD.out gg5) hg6 (fun j hj => by cases hj; omega)
      · rintro a' w6 ⟨r1, r2, Y, Q, ya, yc, qa, qc, rfl, hQ, hQb, cb6, rb6, row6, hs6, gw6⟩
        simp only [Act.put, List.getElem_toArray, List.getElem_cons_zero, List.getElem_cons_succ, List.setIfInBounds_toArray, List.set_cons_zero, List.set_cons_succ]
        have HQ := hid hQ
        have HQB := hid hQb
        have CB6 := hid cb6
        have RB6 := hid rb6
        have ROW6 := hid row6
        have HS6 := hid hs6
        have GW6 := hid gw6
        clear hQ hQb cb6 rb6 row6 hs6 gw6
        go_wp2
        go_roundw
        case rel => exact ⟨kk - 1, T1 + 1 + 1, Q, qa, qc, by go_num, by omega, by omega, HQ.out, HQB.out, CB6.out, RB6.out, ROW6.out, HS6.out, GW6.out⟩
        case measure => simp [intOf]; omega
    · obtain rfl : kk = 0 := by omega
      have d0 := hrb.cell 0
      have d1 := hrb.cell 1
      have d2 := hrb.cell 2
      have f0 := hrb.frozen 0
      have f1 := hrb.frozen 1
      have f2 := hrb.frozen 2
      have x0 := hcb.cell 0
      have x1 := hcb.cell 1
      have x2 := hcb.cell 2
      simp at d0 d1 d2 x0 x1 x2
      have hgs : ∀ x y q, wr.grownBy (((wr.setCell ⟨w.heap.size, 0, none⟩ x).setCell ⟨w.heap.size, 1, none⟩ y).setCell ⟨w.heap.size, 2, none⟩ q) (some w.heap.size) := fun x y q => grownT (grownT (set_grown _ _ _ _) (set_grown _ _ _ _)) (set_grown _ _ _ _)
      have HGS := hid hgs
      have HRB := hid hrb
      have HROW := hid hrow2
      have HSR := hid hsr
      have HGW := hid hgw
      have HOK := hid hok
      have HBB := hid hbb
      clear hgs hrb hcb hrow2 hsr hgw hok hbb
      go_wp2
      refine bodyPost_ret (v := .agg #[.int .i64 U, .int .i64 z, .slice a2 bs2.length c2]) (by simp [results, Try.results100, go_sem, d0, d1, d2]) rfl ⟨U, z, .slice a2 bs2.length c2, bs2, rfl, HOK.out, HBB.out, ?_, ?_, ?_⟩
      · exact (RowB.apart HROW.out HRB.out (by decide) (by decide) (HGS.out (.int .i64 U) (.int .i64 z) (.slice a2 bs2.length c2))).mono (Nat.le_refl _) (by simp [World.setCell])
      · exact (HSR.out.kept (HGS.out (.int .i64 U) (.int .i64 z) (.slice a2 bs2.length c2)) (fun j hj => by cases hj; exact ⟨hBw, by omega⟩)).more (by omega)
      · exact grown_mix HGW.out (HGS.out (.int .i64 U) (.int .i64 z) (.slice a2 bs2.length c2)) (fun j hj => by cases hj; exact Nat.le_refl _)
end Go.Proofs.Ytckkkhabjfbngaa
