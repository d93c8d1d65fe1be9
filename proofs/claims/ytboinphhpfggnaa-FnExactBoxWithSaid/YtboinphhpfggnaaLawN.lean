/-
  How the arguments of a law are opened: an int's bounds.
-/
import Derived.Test.YtboinphhpfggnaaLawS
import Derived.Test.YtboinphhpfggnaaGd
namespace Go.Proofs.Ytboinphhpfggnaa
open Go.RowKit

theorem in64_of {n : Int} (h : (Lit.int .i64 n).wf = true) : in64 n := by
  simpa [in64, Lit.wf, IntKind.min, IntKind.max, IntKind.signed, IntKind.bits] using h

end Go.Proofs.Ytboinphhpfggnaa
