/-
  Chapter 1's walks: Upper.
-/
import Derived.Test.YtjfjadfhcljlbaaPlain
namespace Go.Proofs.Ytjfjadfhcljlbaa
open Go.RowKit

def upc (b : UInt8) : UInt8 := if 97 ≤ b.toNat ∧ b.toNat ≤ 122 then b - 32 else b
def upper (l : List UInt8) : List UInt8 := l.map upc
theorem upc_hit (b : UInt8) (h1 : 97 ≤ (b.toNat : Int)) (h2 : (b.toNat : Int) ≤ 122) : bv (upc b) = .int .u8 ((b.toNat : Int) - 32) := by
  unfold upc bv
  rw [if_pos (by omega)]
  have : (b - 32).toNat = b.toNat - 32 := by
    rw [UInt8.toNat_sub_of_le]
    · rfl
    · rw [UInt8.le_iff_toNat_le]; show 32 ≤ _; omega
  rw [this]
  congr 1
  omega
theorem upc_hit' (b : UInt8) (h1 : 97 ≤ (b.toNat : Int)) (h2 : (b.toNat : Int) ≤ 122) : bv (upc b) = .int .u8 ((b.toNat : Int) - 97 + 65) := by
  rw [upc_hit b h1 h2]; congr 1; omega
theorem upc_miss (b : UInt8) (h : ¬ (97 ≤ (b.toNat : Int) ∧ (b.toNat : Int) ≤ 122)) : upc b = b := by
  unfold upc
  rw [if_neg (by omega)]

end Go.Proofs.Ytjfjadfhcljlbaa