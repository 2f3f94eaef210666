/-
  Contracts of CellsText: the specification's and the program's.
-/
import Derived.Test.YtjnbegemdhkciaaHlpC
import Derived.Test.YtjnbegemdhkciaaEnc
import Derived.Test.YtjnbegemdhkciaaText0
namespace Go.Proofs.Ytjnbegemdhkciaa
open Go.RowKit
set_option linter.unusedVariables false

/-- The bytes of the characters of cells. -/
def text (cs : List C3) : List Int := cs.flatMap fun c => enc c.1
theorem text_succ {cs : List C3} {k : Nat} {c : C3} (h : cs[k]? = some c) : text (cs.take (k + 1)) = text (cs.take k) ++ enc c.1 := by
  unfold text
  rw [List.take_add_one, h]
  simp
theorem text_len (cs : List C3) : (text cs).length ≤ 3 * cs.length := by
  unfold text
  induction cs with
  | nil => simp
  | cons c cs ih => rw [List.flatMap_cons, List.length_append, List.length_cons]; have := (enc_len c.1).2; omega
theorem fault_zero {cs : List C3} (h : cellsFault cs = 0) : cs.length ≤ 2000 ∧ ∀ (k : Nat) (c : C3), cs[k]? = some c → 0 ≤ c.1 ∧ c.1 ≤ 65535 := by
  unfold cellsFault at h
  split at h
  · simp at h
  · split at h
    · rename_i h1 h2
      refine ⟨by omega, fun k c hk => ?_⟩
      have := List.all_eq_true.1 h2 c (List.mem_of_getElem? hk)
      obtain ⟨x, y, z⟩ := c
      exact isCh_yes (cellOk_yes this).1
    · simp at h

/-- What CellsText tells. -/
def textVal (cs : List C3) : Value := .agg #[.int .i64 (cellsFault cs), .string (if cellsFault cs = 0 then strOf (text cs) else ⟨#[]⟩)]

theorem info8t : (Try.prog.info? 5).map (fun i => (i.zero, i.size, i.bytes)) = some (some (.int .u8 0), 1, 1) := by kernel_rfl

set_option maxHeartbeats 800000 in
theorem specCellsText_any (a : Option Addr) (n ca : Nat) (cs : List C3) (w : World) (ha : RdR cellE 3 w a n cs) (h1 : n ≤ maxLen) :
    Calls Try.prog 26 #[.slice a n ca] w fun e w' => e = .returned (textVal cs) ∧ Below w.heap.size w w' := by
  obtain ⟨i0, hi, hz0, hz1, hz2⟩ := info_parts info8t
  have B1 : ∀ o1, Below w.heap.size w (w.alloc o1) := fun o1 => (Below.refl _ _).alloc (Nat.le_refl _) o1
  by_cases hF : cellsFault cs = 0
  · obtain ⟨hl, hch⟩ := fault_zero hF
    have hlen := ha.1
    have e0 : textVal cs = .agg #[.int .i64 0, .string (strOf (text cs))] := by unfold textVal; rw [hF, if_pos rfl]
    rw [e0]
    clear e0
    have HF := fun o1 => l1Fault_any a n ca cs _ (ha.below (B1 o1)) h1
    rw [hF] at HF
    have HF' : Hid _ := HF
    have HC : Hid _ := hch
    clear HF hF hch
    unfold maxLen at h1
    go_enter Try.func26, Try.ntmps26
    go_wp2_with fail
    refine Calls.mono (HF'.out _) ?_
    rintro e w1 ⟨rfl, rfl⟩
    go_wp2_with fail
    go_loopw [4, 5] (fun v i wr => ∃ k : Nat, k ≤ n ∧ i = .int .i64 k ∧ Own .u8 5 wr (w.heap.size + 1) v (text (cs.take k)).length (text (cs.take k)) ∧ Below (w.heap.size + 1) (w.alloc (.cells #[.int .i64 0, .string ⟨#[]⟩] 46)) wr) (fun _ i _ => n - (intOf i).toNat)
    case atStart =>
      refine ⟨0, Nat.zero_le _, rfl, ?_, (Below.refl _ _).alloc (by simp) _⟩
      have := own_lit (k := .u8) (e := 5) (w.alloc (.cells #[.int .i64 0, .string ⟨#[]⟩] 46)) #[] 0 (w.heap.size + 1) [] rfl rfl (by simp) (by simp [maxLen])
      simpa [text] using this
    case round =>
      obtain ⟨k, hk, rfl, ho, hb⟩ := hrel
      have hz : w.heap.size + 1 ≤ wr.heap.size := by have := hb.size; simpa using this
      have hb0 : Below w.heap.size w wr := (B1 _).trans (hb.mono (Nat.le_succ _))
      by_cases hlt : k < n
      · have hlt' : (k : Int) < (n : Int) := by omega
        obtain ⟨b, off, c, rfl, hx, hc⟩ := (ha.below hb0).at hlt
        obtain ⟨c0, _, _⟩ := three hc
        obtain ⟨q1, q2⟩ := HC.out k c hx
        have ht := text_succ hx
        have tl := text_len (cs.take k)
        rw [List.length_take] at tl
        have tl' : (text (cs.take k)).length ≤ 6000 := by omega
        have el := enc_len c.1
        have HT : Hid _ := ht
        clear ht hx hc tl
        generalize text (cs.take k) = xs at *
        generalize c.1 = x at *
        obtain ⟨av, cap, hv, hrd, _⟩ := ho.rd
        subst hv
        clear hrd
        go_wp2_with fail
        refine (l1Encode_any x _ q1 q2).mono ?_
        rintro e w2 ⟨v2, rfl, ho2, hb2⟩
        obtain ⟨g, cap2, hv2, hcells⟩ := ho2.addr (by omega)
        subst hv2
        have ho3 := ho.below hb2
        have hy2 := hb2.size
        go_wp2_with (at_builtin; refine wpList_append_own _ rfl _ _ 22 rfl (w.heap.size + 1) 5 i0 (.int .u8 0) 1 1 Try.underlying22 hi hz0 hz1 hz2 rfl (by decide) _ _ _ rfl ho3 ⟨g, 0, none⟩ (enc x).length cap2 ((enc x).map (Value.int .u8)) rfl (by simp) hcells (ints_oneCell .u8 _) (by unfold maxLen; omega) (by omega) (by omega) ?_)
        intro v' w3 ho4 hg4 _
        have lo := ho3.lt
        have hb3 : Below (w.heap.size + 1) (w.alloc (.cells #[.int .i64 0, .string ⟨#[]⟩] 46)) w3 := (hb.trans (hb2.mono hz)).grown hg4 (by omega) (fun j hj => (lo j hj).1)
        have ho5 : Own .u8 5 w3 (w.heap.size + 1) v' (xs ++ enc x).length (xs ++ enc x) := by
          unfold Own
          rw [List.map_append, List.length_append]
          exact ho4
        rw [← HT.out] at ho5
        clear ho4 hg4 ho3 ho2 ho hb2 hb hb0 lo hcells
        go_wp2
        go_roundw
        case rel => exact ⟨k + 1, by omega, by go_num, ho5, hb3⟩
        case measure => simp [intOf]; omega
      · obtain rfl : k = n := by omega
        have et : text (cs.take k) = text cs := by rw [List.take_of_length_le (by omega)]
        rw [et] at ho
        obtain ⟨av, cap, hv, hrd, _⟩ := ho.rd
        subst hv
        have hcv := conv_str (P := Try.prog) (S := 22) (D := 9) (cap := cap) hrd Try.underlying22 Try.underlying5 Try.underlying9
        have s0 : wr.cell? ⟨w.heap.size, 0, none⟩ = some (.int .i64 0) := (hb.cell (p := ⟨w.heap.size, 0, none⟩) (by simp)).trans (by simp)
        have s1 : wr.cell? ⟨w.heap.size, 1, none⟩ = some (.string ⟨#[]⟩) := (hb.cell (p := ⟨w.heap.size, 1, none⟩) (by simp)).trans (by simp)
        have z0 : wr.frozen? ⟨w.heap.size, 0, none⟩ = false := (hb.frozen (p := ⟨w.heap.size, 0, none⟩) (by simp)).trans (by simp)
        have z1 : wr.frozen? ⟨w.heap.size, 1, none⟩ = false := (hb.frozen (p := ⟨w.heap.size, 1, none⟩) (by simp)).trans (by simp)
        clear ho hrd hb
        go_wp2
        refine bodyPost_ret (v := .agg #[.int .i64 0, .string (strOf (text cs))]) (by simp [results, Try.results26, go_sem, s0, s1]) rfl ⟨rfl, ?_⟩
        exact (hb0.setCell (Nat.le_refl _) _).setCell (Nat.le_refl _) _
  · have e0 : textVal cs = .agg #[.int .i64 (cellsFault cs), .string ⟨#[]⟩] := by unfold textVal; rw [if_neg hF]
    rw [e0]
    clear e0
    have HF := fun o1 => l1Fault_any a n ca cs _ (ha.below (B1 o1)) h1
    generalize cellsFault cs = q at *
    have hq : (q != 0) = true := by simpa using hF
    have HF' : Hid _ := HF
    clear HF hF
    go_enter Try.func26, Try.ntmps26
    go_wp2_with fail
    refine Calls.mono (HF'.out _) ?_
    rintro e w1 ⟨rfl, rfl⟩
    go_wp2
    exact bodyPost_ret (v := .agg #[.int .i64 q, .string ⟨#[]⟩]) (by simp [results, Try.results26, go_sem]) rfl ⟨rfl, B1 _⟩

set_option maxHeartbeats 800000 in
theorem implCellsText_any (a : Option Addr) (n ca : Nat) (cs : List C3) (w : World) (ha : RdR cellE 3 w a n cs) (h1 : n ≤ maxLen) :
    Calls Try.prog 24 #[.slice a n ca] w fun e w' => e = .returned (textVal cs) ∧ Below w.heap.size w w' := by
  have B1 : ∀ o1, Below w.heap.size w (w.alloc o1) := fun o1 => (Below.refl _ _).alloc (Nat.le_refl _) o1
  by_cases hF : cellsFault cs = 0
  · obtain ⟨hl, hch⟩ := fault_zero hF
    have hlen := ha.1
    have e0 : textVal cs = .agg #[.int .i64 0, .string (strOf (text cs))] := by unfold textVal; rw [hF, if_pos rfl]
    rw [e0]
    clear e0
    have HF := fun o1 => implCellsFault_any a n ca cs _ (ha.below (B1 o1)) h1
    rw [hF] at HF
    have HF' : Hid _ := HF
    have HC : Hid _ := hch
    clear HF hF hch
    unfold maxLen at h1
    go_enter Try.func24, Try.ntmps24
    go_wp2_with fail
    refine Calls.mono (HF'.out _) ?_
    rintro e w1 ⟨rfl, hb1⟩
    have hb1' : Below (w.heap.size + 1) (w.alloc (.cells #[.int .i64 0, .string ⟨#[]⟩] 46)) w1 := hb1.mono (by simp)
    have hy1 : w.heap.size + 1 ≤ w1.heap.size := by have := hb1.size; simpa using this
    clear hb1
    go_wp2_with fail
    go_loopw [4, 15] (fun v i wr => ∃ k : Nat, k ≤ n ∧ i = .int .i64 k ∧ Own .u8 5 wr (w.heap.size + 1) v (text (cs.take k)).length (text (cs.take k)) ∧ Below (w.heap.size + 1) (w.alloc (.cells #[.int .i64 0, .string ⟨#[]⟩] 46)) wr) (fun _ i _ => n - (intOf i).toNat)
    case atStart => exact ⟨0, Nat.zero_le _, rfl, by simpa [text] using Own.nil _ _, hb1'⟩
    case round =>
      obtain ⟨k, hk, rfl, ho, hb⟩ := hrel
      have hz : w.heap.size + 1 ≤ wr.heap.size := by have := hb.size; simpa using this
      have hb0 : Below w.heap.size w wr := (B1 _).trans (hb.mono (Nat.le_succ _))
      by_cases hlt : k < n
      · have hlt' : (k : Int) < (n : Int) := by omega
        obtain ⟨b, off, c, rfl, hx, hc⟩ := (ha.below hb0).at hlt
        obtain ⟨c0, c1, c2⟩ := three hc
        obtain ⟨q1, q2⟩ := HC.out k c hx
        have ht := text_succ hx
        have tl := text_len (cs.take k)
        rw [List.length_take] at tl
        have tl' : (text (cs.take k)).length ≤ 6000 := by omega
        have HT : Hid _ := ht
        clear ht hx hc tl
        generalize text (cs.take k) = xs at *
        obtain ⟨x, y, z⟩ := c
        simp only at *
        go_wp2_with fail
        refine (appendCharacter_own _ xs.length _ xs x _ (World.ownsRow.alloc ho _) (by omega) (by simp; omega) q1 q2).mono ?_
        rintro e w3 ⟨v', rfl, ho4, hg4⟩
        have lo := ho.lt
        have hb3 : Below (w.heap.size + 1) (w.alloc (.cells #[.int .i64 0, .string ⟨#[]⟩] 46)) w3 := (hb.alloc hz _).grown hg4 (by simp; omega) (fun j hj => (lo j hj).1)
        rw [← List.length_append, ← HT.out] at ho4
        clear hg4 ho hb hb0 lo
        go_wp2
        go_roundw
        case rel => exact ⟨k + 1, by omega, by go_num, ho4, hb3⟩
        case measure => simp [intOf]; omega
      · obtain rfl : k = n := by omega
        have et : text (cs.take k) = text cs := by rw [List.take_of_length_le (by omega)]
        rw [et] at ho
        obtain ⟨av, cap, hv, hrd, _⟩ := ho.rd
        subst hv
        have hcv := conv_str (P := Try.prog) (S := 22) (D := 9) (cap := cap) hrd Try.underlying22 Try.underlying5 Try.underlying9
        have s0 : wr.cell? ⟨w.heap.size, 0, none⟩ = some (.int .i64 0) := (hb.cell (p := ⟨w.heap.size, 0, none⟩) (by simp)).trans (by simp)
        have s1 : wr.cell? ⟨w.heap.size, 1, none⟩ = some (.string ⟨#[]⟩) := (hb.cell (p := ⟨w.heap.size, 1, none⟩) (by simp)).trans (by simp)
        have z0 : wr.frozen? ⟨w.heap.size, 0, none⟩ = false := (hb.frozen (p := ⟨w.heap.size, 0, none⟩) (by simp)).trans (by simp)
        have z1 : wr.frozen? ⟨w.heap.size, 1, none⟩ = false := (hb.frozen (p := ⟨w.heap.size, 1, none⟩) (by simp)).trans (by simp)
        clear ho hrd hb
        go_wp2
        refine bodyPost_ret (v := .agg #[.int .i64 0, .string (strOf (text cs))]) (by simp [results, Try.results24, go_sem, s0, s1]) rfl ⟨rfl, ?_⟩
        exact (hb0.setCell (Nat.le_refl _) _).setCell (Nat.le_refl _) _
  · have e0 : textVal cs = .agg #[.int .i64 (cellsFault cs), .string ⟨#[]⟩] := by unfold textVal; rw [if_neg hF]
    rw [e0]
    clear e0
    have HF := fun o1 => implCellsFault_any a n ca cs _ (ha.below (B1 o1)) h1
    generalize cellsFault cs = q at *
    have hq : (q != 0) = true := by simpa using hF
    have HF' : Hid _ := HF
    clear HF hF
    go_enter Try.func24, Try.ntmps24
    go_wp2_with fail
    refine Calls.mono (HF'.out _) ?_
    rintro e w1 ⟨rfl, hb⟩
    have s0 : w1.cell? ⟨w.heap.size, 0, none⟩ = some (.int .i64 0) := (hb.cell (p := ⟨w.heap.size, 0, none⟩) (by simp)).trans (by simp)
    have s1 : w1.cell? ⟨w.heap.size, 1, none⟩ = some (.string ⟨#[]⟩) := (hb.cell (p := ⟨w.heap.size, 1, none⟩) (by simp)).trans (by simp)
    have z0 : w1.frozen? ⟨w.heap.size, 0, none⟩ = false := (hb.frozen (p := ⟨w.heap.size, 0, none⟩) (by simp)).trans (by simp)
    have z1 : w1.frozen? ⟨w.heap.size, 1, none⟩ = false := (hb.frozen (p := ⟨w.heap.size, 1, none⟩) (by simp)).trans (by simp)
    have hb0 := below_slot hb
    clear hb
    go_wp2
    refine bodyPost_ret (v := .agg #[.int .i64 q, .string ⟨#[]⟩]) (by simp [results, Try.results24, go_sem, s0, s1]) rfl ⟨rfl, ?_⟩
    exact (hb0.setCell (Nat.le_refl _) _).setCell (Nat.le_refl _) _
end Go.Proofs.Ytjnbegemdhkciaa
