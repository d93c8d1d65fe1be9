/-
  Chapter 2's draws.
-/
import Derived.Test.YtldfakcjimaaaaaWordG
import Derived.Test.YtldfakcjimaaaaaWordE
import Derived.Test.YtldfakcjimaaaaaDraw2
namespace Go.Proofs.Ytldfakcjimaaaaa
open Go.RowKit

def DrewPost (n : Nat) (g : Nat) (code : List UInt8) (w : World) (e : Ending) (w' : World) : Prop := ∃ t : List UInt8, e = .returned (sv t) ∧ t.length ≤ n ∧ Cur w' g code ∧ w.grownBy w' (some g)

def TwoTexts (n : Nat) (w : World) (e : Ending) (w' : World) : Prop := ∃ t u : List UInt8, e = .returned (.tuple #[sv t, sv u]) ∧ t.length ≤ n ∧ u.length ≤ n ∧ Below w.heap.size w w'

def TextAt (n : Nat) (w : World) (e : Ending) (w' : World) : Prop := ∃ (t : List UInt8) (a : Int), e = .returned (.tuple #[sv t, .int .i64 a]) ∧ t.length ≤ n ∧ Below w.heap.size w w'

end Go.Proofs.Ytldfakcjimaaaaa
