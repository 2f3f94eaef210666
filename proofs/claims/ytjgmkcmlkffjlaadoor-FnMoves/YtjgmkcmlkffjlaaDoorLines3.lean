/-
  The program's iterator over lines: its contract.
-/
import Derived.Test.YtjgmkcmlkffjlaaDoorLinesM
import Derived.Test.YtjgmkcmlkffjlaaDoorFiles3
import Derived.Lib.BytesEntry
import Derived.RangeFuncNested
import Derived.RangeFuncBound
import Derived.RangeFuncCalls
import Derived.RangeFuncLeaves
import Derived.RangeFuncBox
import Derived.Shelf.Abstract
import Derived.OwnWalkIn
import Derived.RegionIn
import Derived.BigRegionIn
import Derived.TacticsInMore
import Derived.LoopNIn
import Derived.LoopIn
namespace Go.Proofs.YtjgmkcmlkffjlaaDoor
open Go.RowKit Go.Shelf
set_option linter.unusedVariables false
attribute [local go_sem] Oper.semAt_some

theorem byte_ten (x : Int) (h0 : 0 ≤ x) (h1 : x ≤ 255) : (UInt8.ofNat x.toNat == (10 : Int).toNat.toUInt8) = (x == 10) := by
  obtain ⟨n, rfl⟩ : ∃ n : Nat, x = (n : Int) := ⟨x.toNat, by omega⟩
  have hn : n < 256 := by omega
  rw [Bool.eq_iff_iff]
  simp only [Int.toNat_natCast, beq_iff_eq]
  constructor
  · intro h
    have := congrArg UInt8.toNat h
    simp [UInt8.toNat_ofNat, Nat.mod_eq_of_lt hn] at this
    omega
  · intro h
    have : n = 10 := by omega
    subst this
    rfl

/-- What IndexByte tells of a line feed. -/
theorem indexByte_ten : ∀ (xs : List Int), Bytes xs → Lib.indexByte (Lib.bytesOf xs) (10 : Int).toNat.toUInt8 = if lnSize xs < xs.length then (lnSize xs : Int) else -1
  | [], _ => by simp [Lib.bytesOf, Lib.indexByte, lnSize]
  | x :: xs, h => by
    have hx := h x (by simp)
    have ih := indexByte_ten xs (fun y hy => h y (by simp [hy]))
    have e : Lib.bytesOf (x :: xs) = UInt8.ofNat x.toNat :: Lib.bytesOf xs := rfl
    rw [e, Lib.indexByte, byte_ten x hx.1 hx.2, ih]
    by_cases h10 : x = 10
    · subst h10
      have : lnSize ((10 : Int) :: xs) = 0 := by simp [lnSize, List.findIdx_cons]
      simp [this]
    · have h10' : (x == 10) = false := by simpa using h10
      have : lnSize (x :: xs) = lnSize xs + 1 := by simp [lnSize, List.findIdx_cons, h10']
      rw [this, h10']
      by_cases hl : lnSize xs < xs.length
      · rw [if_pos hl]
        have h2 : ((lnSize xs : Int) == -1) = false := by simp
        simp [h2, hl]
      · rw [if_neg hl]
        simp
        omega

set_option maxHeartbeats 1000000 in
set_option maxRecDepth 100000 in
theorem indexByte_any (b o n c : Nat) (xs : List Int) (w : World) (hx : xs.length = n) (hc : ∀ i, i < n → w.cell? ⟨b, o + i, none⟩ = some (.int .u8 (xs.getD i 0))) (hB : Bytes xs) :
    Calls Tryd.prog 58 #[.slice (some ⟨b, o, none⟩) n c, .int .u8 10] w fun e w' => e = .returned (.int .i64 (if lnSize xs < xs.length then (lnSize xs : Int) else -1)) ∧ w' = w := by
  rw [← indexByte_ten xs hB]
  go_enter Tryd.func58, Tryd.ntmps58
  go_wp2
  rw [run_callFunc_extern Tryd.func67 (by kernel_rfl) (by kernel_rfl) (by kernel_rfl) (e := Extern.BytealgIndexByte.indexByte) (by kernel_rfl), Lib.run_indexByteSlice w b o n c xs hx hc 10]
  simp only [Result.andThen]
  rw [Oper.upon_value]
  go_wp2
  go_ret
  exact ⟨rfl, rfl⟩

/-- What a round keeps: all below n₀, and the block Bn. -/
def Kept2 (n₀ Bn : Nat) (W W' : World) : Prop := Below n₀ W W' ∧ W'.heap[Bn]? = W.heap[Bn]?
theorem Kept2.trans {n₀ Bn : Nat} {A B C : World} (h : Kept2 n₀ Bn A B) (k : Kept2 n₀ Bn B C) : Kept2 n₀ Bn A C := ⟨h.1.trans k.1, k.2.trans h.2⟩

/-- A text that lies below n₀. -/
def TextAt (n₀ : Nat) (W : World) (a : Option Addr) (n : Nat) (xs : List Int) : Prop := Rd .u8 W a n xs ∧ (n = 0 ∨ ∃ b off, a = some ⟨b, off, none⟩ ∧ b < n₀)
theorem TextAt.below {n₀ : Nat} {W W' : World} {a : Option Addr} {n : Nat} {xs : List Int} (h : TextAt n₀ W a n xs) (hb : Below n₀ W W') : TextAt n₀ W' a n xs := by
  obtain ⟨⟨h1, h2⟩, h3⟩ := h
  refine ⟨⟨h1, ?_⟩, h3⟩
  rcases h2 with h2 | ⟨b, off, ha, hc⟩
  · exact .inl h2
  · rcases h3 with h3 | ⟨b', off', ha', hb'⟩
    · exact .inl h3
    · rw [ha] at ha'
      simp only [Option.some.injEq, Addr.mk.injEq, and_true] at ha'
      obtain ⟨rfl, rfl⟩ := ha'
      exact .inr ⟨b, off, ha, fun j hj => (hb.cell (p := ⟨b, off + j, none⟩) hb').trans (hc j hj)⟩
theorem TextAt.of {w : World} {a : Option Addr} {n : Nat} {xs : List Int} (h : Rd .u8 w a n xs) : TextAt w.heap.size w a n xs := by
  refine ⟨h, ?_⟩
  by_cases h0 : n = 0
  · exact .inl h0
  · obtain ⟨b, off, ha, hc⟩ := h.at (show 0 < n by omega)
    exact .inr ⟨b, off, ha, World.block_lt_of_cell? _ _ (hc 0 (by omega))⟩

/-- A line that lies in n bytes. -/
def goodL (n : Nat) (x : Int × L2) : Prop := 0 ≤ x.2.1 ∧ 0 ≤ x.2.2 ∧ x.2.1 + x.2.2 ≤ n
def lineEncs (x : Int × L2) : Array Value := #[.int .i64 x.1, .agg #[.int .i64 x.2.1, .int .i64 x.2.2]]

set_option maxRecDepth 100000 in
set_option maxHeartbeats 4000000 in
theorem linesOf1_in (d : Nat) (hn : 1 ≤ d) (l Bn n₀ : Nat) (a : Option Addr) (n ca : Nat) (xs : List Int) (hB : Bytes xs) (h1 : n ≤ 400) (hca : n ≤ ca) (hcm : ca ≤ 9223372036854775807) (J Jx : List (Int × L2) → World → Prop)
    (hY : ∀ pre x W, goodL n x → J pre W → pre.length < (numL 0 (lns xs)).length → YieldAt Fence.wide (d - 1) Tryd.prog l (lineEncs x) W fun e W' =>
      (e = .returned (.bool true) ∧ J (pre ++ [x]) W' ∧ Kept2 n₀ Bn W W') ∨ (e = .returned (.bool false) ∧ Jx (pre ++ [x]) W'))
    (W : World) (hBn : W.cell? ⟨Bn, 0, none⟩ = some (.slice a n ca)) (hT : TextAt n₀ W a n xs) (h0 : J [] W) (hJd : ∀ pre W q, J pre W → J pre (W.drewN q)) :
    CallsIn Fence.wide d Tryd.prog 57 #[.func (.yield l) #[] #[], .pointer (some ⟨Bn, 0, none⟩)] W fun e W' => (∃ v, e = .returned v) ∧
      ((∃ ys, ys = numL 0 (lns xs) ∧ J ys W') ∨ (∃ pre, pre <+: numL 0 (lns xs) ∧ Jx pre W')) := by
  have hlen := hT.1.1
  refine callsIn_of_wp Tryd.func57 rfl trivial ?_ rfl
  simp only [Tryd.ntmps57, List.size_toArray, List.length_cons, List.length_nil, Nat.reduceAdd, Nat.reduceSub, Array.replicate_succ, Array.replicate_zero, List.push_toArray, List.append_toArray, List.nil_append, List.cons_append]
  gi_wp2
  gi_region
  gi_wp2
  gi_loopw [3, 5, 6] (fun F K z wr => ∃ (f k : Nat) (pre : List (Int × L2)), F = .int .i64 f ∧ K = .int .i64 k ∧ f ≤ n + 1 ∧ k ≤ f ∧ pre ++ numL k (lnsA f f (xs.drop f)) = numL 0 (lns xs) ∧ wr.cell? ⟨Bn, 0, none⟩ = some (.slice a n ca) ∧ TextAt n₀ wr a n xs ∧ J pre wr)
    (fun F _ _ _ => n + 1 - (intOf F).toNat)
  case atStart => exact ⟨0, 0, [], rfl, rfl, by omega, by omega, by simp [lns], hBn, hT, hJd _ _ 1 h0⟩
  case round =>
    obtain ⟨f, k, pre, rfl, rfl, hf, hkf, hx, hbn, ht, hJs⟩ := hrel
    have HX : Hid _ := hx
    clear hx
    by_cases hlt : f < n
    · have hlt' : (f : Int) < (n : Int) := by omega
      have hst := HX.out
      rw [lns_step xs f (by omega), numL] at hst
      have hzl := lnSize_le (xs.drop f)
      have hdl : (xs.drop f).length = n - f := by simp; omega
      obtain ⟨b, off, rfl, hb0⟩ : ∃ b off, a = some ⟨b, off, none⟩ ∧ b < n₀ := by
        rcases ht.2 with h | h
        · omega
        · exact h
      have hcc : ∀ i, i < n - f → wr.cell? ⟨b, off + f + i, none⟩ = some (.int .u8 ((xs.drop f).getD i 0)) := by
        obtain ⟨b', off', ha', hc'⟩ := ht.1.at hlt
        simp only [Option.some.injEq, Addr.mk.injEq, and_true] at ha'
        obtain ⟨rfl, rfl⟩ := ha'
        intro i hi
        rw [Nat.add_assoc, hc' (f + i) (by omega)]
        simp [List.getD_eq_getElem?_getD]
      have IB := indexByte_any b (off + f) (n - f) (ca - f) (xs.drop f) wr hdl hcc (fun y hy => hB y (List.mem_of_mem_drop hy))
      rw [hdl] at IB hzl
      generalize lnSize (xs.drop f) = z at *
      have hpl : pre.length < (numL 0 (lns xs)).length := by rw [← hst]; simp
      obtain ⟨fn, tmps, assign, body, hy, hR⟩ := hY pre ((k : Int), ((f : Int), (z : Int))) wr ⟨by simp, by simp, by simp; omega⟩ hJs hpl
      simp only [lineEncs] at hy
      have HS : Hid _ := hst
      have HIB : Hid _ := IB
      have HY : Hid _ := hY
      have HT : Hid _ := ht
      have hfc : f ≤ ca := by omega
      have hfc' : ¬ ca = f := by omega
      have hz4 : z ≤ 400 := by omega
      have hf4 : f ≤ 400 := by omega
      have hk4 : k ≤ 400 := by omega
      have hpre : pre ++ [((k : Int), ((f : Int), (z : Int)))] ++ numL (k + 1) (lnsA (f + z + 1) (f + z + 1) (xs.drop (f + z + 1))) = numL 0 (lns xs) := by rw [List.append_assoc]; exact hst
      have HP : Hid _ := hpre
      clear hst IB hY ht hcc hdl HX hpl hpre hBn hT h0 hlen
      by_cases hz : z < n - f
      · rw [if_pos hz] at HIB
        have hz0 : ¬ (z : Int) < 0 := by omega
        gi_wp2_with (refine ⟨trivial, ?_⟩; gi_at_call 58; refine (callsIn_wide.2 HIB.out).mono ?_; rintro e w' ⟨rfl, rfl⟩)
        refine hR.mono ?_
        rintro e W3 (⟨rfl, hJ3, hk3⟩ | ⟨rfl, hJx3⟩)
        · have hbn3 := (World.cell?_of_block (w := w') (a := ⟨Bn, 0, none⟩) hk3.2).trans hbn
          have ht3 : TextAt n₀ W3 (some ⟨b, off, none⟩) n xs := TextAt.below HT.out hk3.1
          gi_wp2
          go_roundw
          case rel => exact ⟨f + z + 1, k + 1, pre ++ [((k : Int), ((f : Int), (z : Int)))], by go_num, by go_num, by omega, by omega, HP.out, hbn3, ht3, hJ3⟩
          case measure => simp [intOf]; omega
        · gi_wp2
          refine bodyPost_ret (results_none rfl _ _ _) rfl ?_
          exact ⟨⟨_, rfl⟩, .inr ⟨pre ++ [((k : Int), ((f : Int), (z : Int)))], ⟨_, HP.out⟩, hJx3⟩⟩
      · rw [if_neg hz] at HIB
        have hzz : (n : Int) - (f : Int) = (z : Int) := by omega
        gi_wp2_with (refine ⟨trivial, ?_⟩; gi_at_call 58; refine (callsIn_wide.2 HIB.out).mono ?_; rintro e w' ⟨rfl, rfl⟩)
        refine hR.mono ?_
        rintro e W3 (⟨rfl, hJ3, hk3⟩ | ⟨rfl, hJx3⟩)
        · have hbn3 := (World.cell?_of_block (w := w') (a := ⟨Bn, 0, none⟩) hk3.2).trans hbn
          have ht3 : TextAt n₀ W3 (some ⟨b, off, none⟩) n xs := TextAt.below HT.out hk3.1
          gi_wp2
          go_roundw
          case rel => exact ⟨f + z + 1, k + 1, pre ++ [((k : Int), ((f : Int), (z : Int)))], by go_num, by go_num, by omega, by omega, HP.out, hbn3, ht3, hJ3⟩
          case measure => simp [intOf]; omega
        · gi_wp2
          refine bodyPost_ret (results_none rfl _ _ _) rfl ?_
          exact ⟨⟨_, rfl⟩, .inr ⟨pre ++ [((k : Int), ((f : Int), (z : Int)))], ⟨_, HP.out⟩, hJx3⟩⟩
    · gi_wp2
      go_end0
      have hx := HX.out
      rw [lns_end xs f (by omega)] at hx
      exact ⟨⟨_, rfl⟩, .inl ⟨pre, by simpa [numL] using hx, hJs⟩⟩

set_option maxHeartbeats 1000000 in
theorem linesOf_in (d : Nat) (a : Option Addr) (n ca : Nat) (w : World) :
    CallsIn Fence.wide d Tryd.prog 44 #[.slice a n ca] w fun e w' => e = .returned (.func (.func 57) #[] #[.pointer (some ⟨w.heap.size, 0, none⟩)]) ∧ w' = w.alloc (.cells #[.slice a n ca] 22) := by
  refine callsIn_of_wp Tryd.func44 rfl trivial ?_ rfl
  simp only [Tryd.ntmps44, List.size_toArray, List.length_cons, List.length_nil, Nat.reduceAdd, Nat.reduceSub, Array.replicate_succ, Array.replicate_zero, List.push_toArray, List.append_toArray, List.nil_append, List.cons_append]
  gi_wp2
  go_ret
  exact ⟨rfl, rfl⟩

theorem linesOf_stops (d : Nat) (hn : 1 ≤ d) (Bn n₀ : Nat) (a : Option Addr) (n ca : Nat) (xs : List Int) (hB : Bytes xs) (h1 : n ≤ 400) (hca : n ≤ ca) (hcm : ca ≤ 9223372036854775807) (w : World)
    (hBn : w.cell? ⟨Bn, 0, none⟩ = some (.slice a n ca)) (hT : TextAt n₀ w a n xs) (hn₀ : n₀ ≤ w.heap.size) :
    SeqStopsK Fence.wide d Tryd.prog 57 #[.pointer (some ⟨Bn, 0, none⟩)] lineEncs (Kept2 n₀ Bn) (fun ys => ys = numL 0 (lns xs)) (fun pre => pre <+: numL 0 (lns xs)) (numL 0 (lns xs)).length w :=
  fun l J Jx W hW hJ _ hY h0 => linesOf1_in d hn l Bn n₀ a n ca xs hB h1 hca hcm J Jx (fun pre x W _ => hY pre x W) W (cell_later hW hBn) (hT.below (hW.mono hn₀)) h0 (fun pre W q h => hJ pre W _ none h ⟨rfl, rfl, rfl, Nat.le_refl _, fun _ _ _ => rfl⟩ (fun r e => by cases e))

/-- The same, for a body that is told that its line lies in the text. -/
abbrev LineIn (n : Nat) := { x : Int × L2 // goodL n x }

theorem linesOf_stopsS (d : Nat) (hn : 1 ≤ d) (Bn n₀ : Nat) (a : Option Addr) (n ca : Nat) (xs : List Int) (hB : Bytes xs) (h1 : n ≤ 400) (hca : n ≤ ca) (hcm : ca ≤ 9223372036854775807) (w : World)
    (hBn : w.cell? ⟨Bn, 0, none⟩ = some (.slice a n ca)) (hT : TextAt n₀ w a n xs) (hn₀ : n₀ ≤ w.heap.size) :
    SeqStopsK Fence.wide d Tryd.prog 57 #[.pointer (some ⟨Bn, 0, none⟩)] (fun x : LineIn n => lineEncs x.1) (Kept2 n₀ Bn) (fun ys => ys.map (·.1) = numL 0 (lns xs)) (fun pre => pre.map (·.1) <+: numL 0 (lns xs)) (numL 0 (lns xs)).length w := by
  intro l J Jx W hW hJ _ hY h0
  have key := linesOf1_in d hn l Bn n₀ a n ca xs hB h1 hca hcm (fun pre W => ∃ p : List (LineIn n), p.map (·.1) = pre ∧ J p W) (fun pre W => ∃ p : List (LineIn n), p.map (·.1) = pre ∧ Jx p W) (fun pre x W1 hg ⟨p, hp, hJp⟩ hlt => by
      subst hp
      refine (hY p ⟨x, hg⟩ W1 hJp (by simpa using hlt)).mono ?_
      rintro e W' (⟨rfl, hJ', hk⟩ | ⟨rfl, hJx'⟩)
      · exact .inl ⟨rfl, ⟨p ++ [⟨x, hg⟩], by simp, hJ'⟩, hk⟩
      · exact .inr ⟨rfl, ⟨p ++ [⟨x, hg⟩], by simp, hJx'⟩⟩) W (cell_later hW hBn) (hT.below (hW.mono hn₀)) ⟨[], rfl, h0⟩
    (fun pre W q ⟨p, hp, h⟩ => ⟨p, hp, hJ p W _ none h ⟨rfl, rfl, rfl, Nat.le_refl _, fun _ _ _ => rfl⟩ (fun r e => by cases e)⟩)
  refine key.mono ?_
  rintro e W' ⟨hv, h⟩
  refine ⟨hv, ?_⟩
  rcases h with ⟨ys, hy, p, hp, hJp⟩ | ⟨pre, hpre, p, hp, hJp⟩
  · exact .inl ⟨p, hp.trans hy, hJp⟩
  · exact .inr ⟨p, by subst hp; exact hpre, hJp⟩
end Go.Proofs.YtjgmkcmlkffjlaaDoor
