/-
  Hlp2, HlpF, HlpI in one text.
-/
import Derived.Test.YtocophekfbhfbaaHlp1
import Derived.Test.YtocophekfbhfbaaChg
import Derived.Test.YtocophekfbhfbaaRows
namespace Go.Proofs.Ytocophekfbhfbaa
open Go.RowKit

end Go.Proofs.Ytocophekfbhfbaa

namespace Go.Proofs.Ytocophekfbhfbaa
open Go.RowKit
set_option linter.unusedVariables false

theorem chg_alloc {lo hi : Nat} {w w' : World} {o : Obj} (h : Chg lo hi (w.alloc o) w') : Chg lo hi w w' :=
  (Chg.of_below ((Below.refl _ _).alloc (Nat.le_refl _) o)).trans h

end Go.Proofs.Ytocophekfbhfbaa

namespace Go.Proofs.Ytocophekfbhfbaa
open Go.RowKit
set_option linter.unusedVariables false

/-- Integers that count on from k. -/
def mkI (k : Int) (n : Nat) : List Int := (List.range n).map fun (i : Nat) => k + (i : Int)

theorem mkI_len (k : Int) (n : Nat) : (mkI k n).length = n := by simp [mkI]

theorem mkI_getD (k : Int) (n j : Nat) (h : j < n) : (mkI k n).getD j 0 = k + (j : Int) := by
  simp [mkI, List.getD_eq_getElem?_getD, h]

theorem mkI_succ (k : Int) (n : Nat) : mkI k (n + 1) = mkI k n ++ [k + (n : Int)] := by
  simp [mkI, List.range_succ]

theorem mkI_set (xs : List Int) (x0 : Int) (n k : Nat) (h : xs.length = n) (hk : k < n) :
    ((mkI x0 k ++ xs.drop k).map (Value.int .i64)).set k (Value.int .i64 (x0 + (k : Int))) = (mkI x0 (k + 1) ++ xs.drop (k + 1)).map (Value.int .i64) := by
  rw [List.drop_eq_getElem_cons (show k < xs.length by omega), List.map_append, List.map_cons, set_mid _ _ (by simp [mkI_len]), mkI_succ]
  simp

theorem info64 : (Try.prog.info? 2).map (fun i => (i.zero, i.size, i.bytes)) = some (some (.int .i64 0), 1, 8) := by kernel_rfl

theorem copyI_set (xs : List Int) (n k : Nat) (h : xs.length = n) (hk : k < n) :
    ((xs.take k ++ List.replicate (n - k) 0).map (Value.int .i64)).set k (Value.int .i64 (xs.getD k 0)) = (xs.take (k + 1) ++ List.replicate (n - (k + 1)) 0).map (Value.int .i64) := by
  obtain ⟨d, hd⟩ : ∃ d, n - k = d + 1 := ⟨n - k - 1, by omega⟩
  have hk' : k < xs.length := by omega
  have e : xs.take (k + 1) = xs.take k ++ [xs.getD k 0] := by
    rw [List.take_succ_eq_append_getElem hk', List.getD_eq_getElem?_getD, List.getElem?_eq_getElem hk', Option.getD_some]
  rw [hd, List.replicate_succ, List.map_append, List.map_cons, set_mid _ _ (by simp; omega), e, show n - (k + 1) = d by omega, List.map_append, List.map_append]
  rfl

end Go.Proofs.Ytocophekfbhfbaa