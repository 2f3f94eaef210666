/-
  FetchBlock: bounds.
-/
import Derived.Test.YtogmgpnkaanjeaaFetch4
import Derived.Test.YtogmgpnkaanjeaaFetch2
namespace Go.Proofs.Ytogmgpnkaanjeaa
set_option linter.unusedVariables false

theorem ft_zero {u z : Int} {bs : List Bk} {xs : List Int} {num M : Int} (h : ftCode u z bs xs num M = 0) : OkC u z bs := by
  unfold ftCode at h
  by_cases q : asked u z bs xs.length ≠ 0
  · rw [if_pos q] at h; exact absurd h q
  · exact (asked_ok (n := xs.length) (Decidable.not_not.1 q)).1

theorem ftR_len (u z : Int) (bs : List Bk) (xs : List Int) (num M : Int) : (ftR u z bs xs num M).length ≤ 400 := by
  unfold ftR
  split
  · rename_i h
    have hok := ft_zero h
    have h1 := hok.u1
    have h2 := hok.u2
    have := ftB_len (U := u.toNat) (Z := z) (by rw [Int.toNat_of_nonneg (by omega)]; exact hok) xs num.toNat
    omega
  · simp

theorem ftS_len (u z : Int) (bs : List Bk) (xs : List Int) (num M : Int) : ((ftS u z bs xs num M).length : Int) + byB (ftS u z bs xs num M) ≤ 1000000 := by
  unfold ftS
  split
  · rename_i h
    have hok := ft_zero h
    have h1 := hok.u1
    have h2 := hok.u2
    have h3 := ftB_len (U := u.toNat) (Z := z) (by rw [Int.toNat_of_nonneg (by omega)]; exact hok) xs num.toNat
    have h4 := ftQ_bd z bs num (ftB u.toNat bs xs num.toNat)
    have h5 := okC_byB hok
    have h6 := hok.len
    have h7 := hok.z2
    omega
  · simp [byB]
end Go.Proofs.Ytogmgpnkaanjeaa
