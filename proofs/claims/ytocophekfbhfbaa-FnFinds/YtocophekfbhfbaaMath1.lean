/-
  Characters and their bytes, as plain mathematics: no program is named here.
-/
import Derived.WalkKit
namespace Go.Proofs.Ytocophekfbhfbaa

/-- A character of the document: 0 to 65535, but for 55296 to 57343. -/
def isCh (c : Int) : Bool := decide ((0 ≤ c ∧ c ≤ 55295) ∨ (57344 ≤ c ∧ c ≤ 65535))
/-- Its bytes. -/
def enc (c : Int) : List Int := if c < 128 then [c] else if c < 2048 then [192 + c / 64, 128 + c % 64] else [224 + c / 4096, 128 + c / 64 % 64, 128 + c % 64]
/-- What EncodeChar tells: the code, the bytes. -/
def encCode (c : Int) : Int := if isCh c = true then 0 else 3
def encBytes (c : Int) : List Int := if isCh c = true then enc c else []

/-- A character that a cell can show. -/
def shown (c : Int) : Bool := isCh c && decide (32 ≤ c) && decide (c ≠ 127)
theorem isCh_yes {c : Int} (h : isCh c = true) : 0 ≤ c ∧ c ≤ 65535 := by
  simp [isCh] at h; omega
theorem enc_len (c : Int) : 1 ≤ (enc c).length ∧ (enc c).length ≤ 3 := by
  unfold enc; split
  · simp
  · split <;> simp
theorem encBytes_len (c : Int) : (encBytes c).length ≤ 3 := by
  unfold encBytes; split
  · exact (enc_len c).2
  · simp

theorem and63 (c : Int) (h0 : 0 ≤ c) (h1 : c < 65536) : bits .and .u16 c 63 = c % 64 := by
  rw [u16_and c 63 h0 h1 (by omega) (by omega), show (63 : Int).toNat = 63 from rfl, nat_mask6]
  omega
theorem or_join (x y : Int) (i : Nat) (hx0 : 0 ≤ x) (hx1 : x < 65536) (hy0 : 0 ≤ y) (hy1 : y < 65536) (hx : x.toNat % 2 ^ i = 0) (hy : y.toNat < 2 ^ i) : bits .or .u16 x y = x + y := by
  rw [u16_or x y hx0 hx1 hy0 hy1, nat_join i _ _ hx hy]
  omega
theorem or192 (y : Int) (h0 : 0 ≤ y) (h1 : y < 64) : bits .or .u16 192 y = 192 + y := or_join 192 y 6 (by omega) (by omega) h0 (by omega) rfl (by omega)
theorem or224 (y : Int) (h0 : 0 ≤ y) (h1 : y < 32) : bits .or .u16 224 y = 224 + y := or_join 224 y 5 (by omega) (by omega) h0 (by omega) rfl (by omega)
theorem or128 (y : Int) (h0 : 0 ≤ y) (h1 : y < 128) : bits .or .u16 128 y = 128 + y := or_join 128 y 7 (by omega) (by omega) h0 (by omega) rfl (by omega)
end Go.Proofs.Ytocophekfbhfbaa
