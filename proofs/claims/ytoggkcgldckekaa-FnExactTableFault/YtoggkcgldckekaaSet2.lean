/-
  Chapter 7: the program's sets: setOfList.
-/
import Derived.Test.YtoggkcgldckekaaSet1
import Derived.Test.YtoggkcgldckekaaSetN
import Derived.Laws.CopyOwn
namespace Go.Proofs.Ytoggkcgldckekaa
open Go.RowKit
set_option linter.unusedVariables false
set_option linter.unusedSimpArgs false

/-- A set out of a list. -/
def markB (xs : List Int) : List Bool := xs.foldl (fun b x => b.set x.toNat true) (List.replicate 80 false)
theorem markB_len (xs : List Int) : (markB xs).length = 80 := by
  have h : ∀ (xs : List Int) (b : List Bool), (xs.foldl (fun b x => b.set x.toNat true) b).length = b.length := by
    intro xs
    induction xs with
    | nil => intro b; rfl
    | cons x xs ih => intro b; rw [List.foldl_cons, ih]; simp
  rw [markB, h]; simp
theorem markB_step {xs : List Int} {k : Nat} (h : k < xs.length) : (markB (xs.take k)).set (xs.getD k 0).toNat true = markB (xs.take (k + 1)) := by
  unfold markB
  rw [List.take_succ_eq_append_getElem h, List.foldl_append, List.getD_eq_getElem?_getD, List.getElem?_eq_getElem h]
  rfl

theorem zero80 (w : World) : (zeroValue 86).run Try.prog w = .ok (.agg (boolsA (List.replicate 80 false))) w := by
  rw [boolsA_zero]
  exact (zero_of_info info80).1 w

/-- The address of an array's element. -/
theorem indexAt80 (B x : Nat) (h : x < 80) (w : World) : (Instr.indexAt 86 (.pointer (some ⟨B, 0, none⟩)) (.int .i64 (x : Int))).run Try.prog w = .ok (.pointer (some ⟨B, x, none⟩)) w := by
  have hz := Try.sizeOf4
  have h1 : Try.prog.arrayLen 86 = 80 := by kernel_rfl
  have h2 : Try.prog.elem 86 = 4 := by kernel_rfl
  have h0 : Try.prog.underlying 86 = some (.array (Try.prog.arrayLen 86) (Try.prog.elem 86)) := by kernel_rfl
  have hx : 0 ≤ (x : Int) ∧ (x : Int) < 80 := by omega
  rw [run_indexAt_array (h := h0), h1, h2, if_pos (by simpa using hx), hz]
  simp [Result.andThen, Addr.add_lit]

theorem arr80 : Try.prog.underlying 86 = some (.array (Try.prog.arrayLen 86) (Try.prog.elem 86)) ∧ Try.prog.arrayLen 86 = 80 ∧ Try.prog.elem 86 = 4 := ⟨by kernel_rfl, by kernel_rfl, by kernel_rfl⟩

theorem Blk.setRow {W : World} {B : Nat} {cs : Array Value} {t : TypeId} (h : Blk W B cs t) (cs' : Array Value) : Blk (W.setRow B cs') B cs' t := setRow_heap W B cs cs' t (0, 0) h
theorem Blk.otherRow {W : World} {B B' : Nat} {cs : Array Value} {t : TypeId} (h : Blk W B cs t) (hne : B ≠ B') (cs' : Array Value) : Blk (W.setRow B' cs') B cs t := (setRow_other W B' B cs' hne).trans h
theorem Blk.below {W W' : World} {B : Nat} {cs : Array Value} {t : TypeId} (h : Blk W B cs t) (hb : Below W.heap.size W W') : Blk W' B cs t := (hb.block B h.lt).trans h
theorem size_set80 {bs : List Bool} (h : bs.length = 80) : (boolsA bs).size = 80 := by rw [boolsA_size, h]
/-- An array's element in its box. -/
theorem Blk.bool {W : World} {B : Nat} {bs : List Bool} {t : TypeId} (h : Blk W B (boolsA bs) t) {j : Nat} (hj : j < bs.length) : W.cell? ⟨B, j, none⟩ = some (.bool (bs.getD j false)) := by
  rw [h.cell, boolsA_at bs j hj]
theorem Blk.mark {W : World} {B : Nat} {bs : List Bool} {t : TypeId} (h : Blk W B (boolsA bs) t) (j : Nat) (b : Bool) : Blk (W.setCell ⟨B, j, none⟩ (.bool b)) B (boolsA (bs.set j b)) t := by
  have := h.set (i := j) (.bool b)
  rw [boolsA_set] at this
  exact this

set_option maxHeartbeats 1600000 in
set_option maxRecDepth 20000 in
theorem setOfList_any (a : Option Addr) (n ca : Nat) (xs : List Int) (w : World) (ha : Rd .i64 w a n xs) (hx : ∀ x ∈ xs, 0 ≤ x ∧ x < 80) (h1 : n ≤ 80) :
    Calls Try.prog 54 #[.slice a n ca] w fun e w' => e = .returned (.agg (boolsA (markB xs))) ∧ Below w.heap.size w w' := by
  obtain ⟨Z, hZ⟩ : ∃ Z, Z = boolsA (List.replicate 80 false) := ⟨_, rfl⟩
  have hzv := zero80
  rw [← hZ] at hzv
  have HZ : Hid _ := hZ
  have HL : Hid _ := ha.1
  have HX : Hid _ := hx
  clear hZ hx
  have hb0 : Below w.heap.size w ((w.alloc (.cells Z 86)).alloc (.cells Z 86)) := ((Below.refl _ _).alloc (Nat.le_refl _) _).alloc (by simp) _
  have hB0 : Blk ((w.alloc (.cells Z 86)).alloc (.cells Z 86)) (w.heap.size + 1) (boolsA (markB (xs.take 0))) 86 := by
    have e : boolsA (markB (xs.take 0)) = Z := HZ.out.symm
    rw [e]
    have := Blk.new (w.alloc (.cells Z 86)) Z 86
    rwa [show (w.alloc (.cells Z 86)).heap.size = w.heap.size + 1 by simp] at this
  have hR0 : Blk ((w.alloc (.cells Z 86)).alloc (.cells Z 86)) w.heap.size Z 86 := (Blk.new w Z 86).alloc _
  go_enter Try.func54, Try.ntmps54
  go_wp2
  go_loopw [8] (fun i wr => ∃ k : Nat, k ≤ n ∧ i = .int .i64 k ∧ Hid (Blk wr (w.heap.size + 1) (boolsA (markB (xs.take k))) 86) ∧ Hid (Blk wr w.heap.size Z 86) ∧ Below w.heap.size w wr ∧ w.heap.size + 1 < wr.heap.size) (fun i _ => n - (intOf i).toNat)
  case atStart => exact ⟨0, Nat.zero_le _, rfl, hB0, hR0, hb0, by simp⟩
  case round =>
    obtain ⟨k, hk, rfl, HB, HR, hbw, hzw⟩ := hrel
    clear hb0 hB0 hR0
    by_cases hlt : k < n
    · obtain ⟨b1, o1, rfl, hc1⟩ := (ha.below hbw).at hlt
      have ck := hc1 k hlt
      have hst := markB_step (xs := xs) (k := k) (by rw [HL.out]; exact hlt)
      have hxr := HX.out (xs.getD k 0) (by have : k < xs.length := by rw [HL.out]; exact hlt
                                           rw [List.getD_eq_getElem?_getD, List.getElem?_eq_getElem this]; exact List.getElem_mem this)
      have hlt' : (k : Int) < (n : Int) := by omega
      clear hc1
      generalize xs.getD k 0 = X at ck hst hxr
      obtain ⟨x, rfl⟩ : ∃ x : Nat, X = (x : Int) := ⟨X.toNat, by omega⟩
      have hx80 : x < 80 := by omega
      have cb := HB.out.bool (j := x) (by rw [markB_len]; exact hx80)
      have cf := HB.out.frozen x
      have HB2 : Hid (Blk (wr.setCell ⟨w.heap.size + 1, x, none⟩ (.bool true)) (w.heap.size + 1) (boolsA (markB (xs.take (k + 1)))) 86) := by
        have := HB.out.mark x true
        rw [show (markB (xs.take k)).set x true = markB (xs.take (k + 1)) by simpa using hst] at this
        exact this
      have HR2 : Hid (Blk (wr.setCell ⟨w.heap.size + 1, x, none⟩ (.bool true)) w.heap.size Z 86) := HR.out.other (by omega) _
      generalize (markB (xs.take k)).getD x false = bx at cb
      clear hst
      have hx80' : (x : Int) < 80 := by omega
      have hia := indexAt80 (w.heap.size + 1) x hx80
      go_wp2
      go_roundw
      case rel => exact ⟨k + 1, by omega, by go_num, HB2, HR2, hbw.setCell (by simp) _, by simpa [World.setCell] using hzw⟩
      case measure => simp [intOf]; omega
    · have hkn : k = n := by omega
      subst hkn
      have HB3 : Hid (Blk wr (w.heap.size + 1) (boolsA (markB xs)) 86) := by
        have := HB.out
        rw [List.take_of_length_le (by rw [HL.out]; omega)] at this
        exact this
      have HS : Hid ((boolsA (markB xs)).size = 80) := size_set80 (markB_len xs)
      have HZS : Hid (Z.size = 80) := by rw [HZ.out]; exact size_set80 (by simp)
      have HO : Hid _ := boolsA_one (markB xs)
      clear HB
      obtain ⟨A, hA⟩ : ∃ A, A = boolsA (markB xs) := ⟨_, rfl⟩
      rw [← hA] at HB3 HS HO
      have HA : Hid _ := hA
      clear hA
      go_wp2_with (first | ((with_reducible show wpList _ _ _ (({ dst := _, op := .load 86 _, type := _, pos := _, after := _, guard := _ } : Oper) :: _) _ _); refine wpList_load_row rfl 86 _ rfl _ rfl 86 (A) (0, 0) _ HB3.out under80 rfl (size80 HS.out) ?_) | ((with_reducible show wpList _ _ _ (({ dst := _, op := .store 86 _ _, type := _, pos := _, after := _, guard := _ } : Oper) :: _) _ _); refine wpList_store_row rfl 86 _ _ rfl _ (A) rfl rfl 86 (Z) HR.out (size80 HS.out) (HZS.out.trans HS.out.symm) HO.out ?_))
      refine bodyPost_ret (v := .agg A) ?_ rfl ⟨by rw [HA.out], below_setRow hbw (Nat.le_refl _) _⟩
      exact results_cell_row rfl _ _ _ 86 A (0, 0) _ rfl (HR.out.setRow A) under80 rfl (size80 HS.out)
end Go.Proofs.Ytoggkcgldckekaa
