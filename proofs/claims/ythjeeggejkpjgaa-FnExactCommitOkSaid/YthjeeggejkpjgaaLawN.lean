/-
  How the arguments of a law are opened: an int's bounds.
-/
import Derived.Test.YthjeeggejkpjgaaLawS
import Derived.Test.YthjeeggejkpjgaaGd
namespace Go.Proofs.Ythjeeggejkpjgaa
open Go.RowKit

theorem in64_of {n : Int} (h : (Lit.int .i64 n).wf = true) : in64 n := by
  simpa [in64, Lit.wf, IntKind.min, IntKind.max, IntKind.signed, IntKind.bits] using h

end Go.Proofs.Ythjeeggejkpjgaa
