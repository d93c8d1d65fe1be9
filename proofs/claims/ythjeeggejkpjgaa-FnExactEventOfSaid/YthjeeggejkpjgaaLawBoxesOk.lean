/-
  The exact law of BoxesOk out of what the two functions answer (made by tools/lawc.py).
-/
import Derived.Test.YthjeeggejkpjgaaBoxA
import Derived.Test.YthjeeggejkpjgaaRow
import Derived.Test.YthjeeggejkpjgaaLgB
import Derived.Test.YthjeeggejkpjgaaGa
namespace Go.Proofs.Ythjeeggejkpjgaa
open Go.RowKit

end Go.Proofs.Ythjeeggejkpjgaa
