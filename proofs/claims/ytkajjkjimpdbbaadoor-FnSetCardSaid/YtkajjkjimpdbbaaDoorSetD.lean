/-
  Chapter 4: the laws' helpers: sameInts, times, at0, heldSpanS.
-/
import Derived.Test.YtkajjkjimpdbbaaDoorSetC
import Derived.Test.YtkajjkjimpdbbaaDoorEnv
namespace Go.Proofs.YtkajjkjimpdbbaaDoor
open Go.RowKit

theorem count_take {l : List Int} {k : Nat} {y : Int} (h : l[k]? = some y) (x : Int) : (l.take (k + 1)).count x = (l.take k).count x + (if (y == x) = true then 1 else 0) := by
  rw [take_at h, List.count_append, List.count_singleton]

end Go.Proofs.YtkajjkjimpdbbaaDoor
