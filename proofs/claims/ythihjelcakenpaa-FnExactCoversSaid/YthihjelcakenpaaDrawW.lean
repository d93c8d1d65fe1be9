/-
  A whole number is drawn.
-/
import Derived.Test.YthihjelcakenpaaDraw2
namespace Go.Proofs.Ythihjelcakenpaa
open Go.RowKit

theorem grown_trans {w a b : World} {row : Option Nat} (h : w.grownBy a row) (k : a.grownBy b row) : w.grownBy b row :=
  ⟨k.os.trans h.os, k.tape.trans h.tape, k.output.trans h.output, Nat.le_trans h.size k.size, fun i hi hne => (k.block i (Nat.lt_of_lt_of_le hi h.size) hne).trans (h.block i hi hne)⟩
def in64 (n : Int) : Prop := -9223372036854775808 ≤ n ∧ n ≤ 9223372036854775807
/-- Some int was drawn. -/
def WholeG (g : Nat) (code : List UInt8) (w : World) (e : Ending) (w' : World) : Prop := ∃ n : Int, e = .returned (.int .i64 n) ∧ in64 n ∧ Cur w' g code ∧ w.grownBy w' (some g)
theorem drawnWhole : ∀ x ∈ ([0, 1, -1, 9, 10, 999999999, 1000000000, 9223372036854775807, -9223372036854775808] : List Int), -9223372036854775808 ≤ x ∧ x ≤ 9223372036854775807 := by decide

end Go.Proofs.Ythihjelcakenpaa
