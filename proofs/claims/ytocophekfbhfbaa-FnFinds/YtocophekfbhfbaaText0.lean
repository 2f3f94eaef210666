/-
  Strings out of bytes; rows that are not empty; worlds that grow one behind the other. It speaks of no program.
-/
import Derived.Test.YtocophekfbhfbaaRows2
namespace Go.Proofs.Ytocophekfbhfbaa
open Go.RowKit
set_option linter.unusedVariables false

/-- A string out of bytes. -/
def strOf (ns : List Int) : ByteArray := ns.foldl (fun r n => r.push (UInt8.ofNat n.toNat)) ByteArray.empty

theorem conv_str {P : Program} {S D E : TypeId} {a : Option Addr} {n cap : Nat} {xs : List Int} {w : World} (h : Rd .u8 w a n xs) (hs : P.underlying S = some (.slice E)) (he : P.underlying E = some (.int .u8)) (hd : P.underlying D = some .string) :
    (convert S D (.slice a n cap)).run P w = .ok (.string (strOf xs)) w := by
  rw [run_convert_bytes_string w S D E a n cap hs he hd]
  rcases h.2 with h0 | ⟨b, off, rfl, hc⟩
  · have hx : xs = [] := List.eq_nil_of_length_eq_zero (by rw [h.1, h0])
    subst hx
    subst h0
    cases a with
    | none => rfl
    | some a => exact run_bytesToString w a 0 cap [] (by simp [loadCells, loadCellsFrom])
  · refine run_bytesToString w ⟨b, off, none⟩ n cap xs ?_
    have := run_loadCells_list (P := P) w ⟨b, off, none⟩ (xs.map (Value.int .u8)) (fun j v hv => by
      have hj : j < xs.length := by have := (List.getElem?_eq_some_iff.1 hv).1; simpa using this
      rw [Addr.add_lit, hc j (by rw [← h.1]; exact hj)]
      simp [hj] at hv
      simp [List.getD_eq_getElem?_getD, hj, hv])
    rw [List.length_map, h.1] at this
    exact this

/-- A row that is not empty has an address. -/
theorem Own.addr {k : IntKind} {e : TypeId} {w : World} {base : Nat} {v : Value} {n : Nat} {xs : List Int} (h : Own k e w base v n xs) (hn : 0 < n) :
    ∃ g cap, v = .slice (some ⟨g, 0, none⟩) n cap ∧ ∀ j u, (xs.map (Value.int k))[j]? = some u → w.cell? ((⟨g, 0, none⟩ : Addr).add j) = some u := by
  rcases h.2 with ⟨rfl, rfl⟩ | ⟨g, cap, cur, hv, _⟩
  · omega
  · refine ⟨g, cap, hv, World.ownsRow.cells h (g := g) (by rw [hv]; rfl)⟩

theorem grown_trans {w1 w2 w3 : World} {row : Option Nat} (h : w1.grownBy w2 row) (k : w2.grownBy w3 row) : w1.grownBy w3 row :=
  ⟨k.os.trans h.os, k.tape.trans h.tape, k.output.trans h.output, Nat.le_trans h.size k.size, fun i hi hr => (k.block i (Nat.lt_of_lt_of_le hi h.size) hr).trans (h.block i hi hr)⟩
theorem grown_none {w1 w2 : World} {row : Option Nat} (h : w1.grownBy w2 none) : w1.grownBy w2 row := ⟨h.os, h.tape, h.output, h.size, fun i hi _ => h.block i hi (by simp)⟩
end Go.Proofs.Ytocophekfbhfbaa
