/-
  Arguments of the type Command, opened (made by tools/typegen.py).
-/
import Derived.Test.YtidjebepgpbcnaaLgO
import Derived.Test.YtidjebepgpbcnaaTyCommand
import Derived.Test.YtidjebepgpbcnaaOpSpan
import Derived.Test.YtidjebepgpbcnaaOpFilter
namespace Go.Proofs.Ytidjebepgpbcnaa
open Go.ChangeShapes Go.WideShapes Go.ChangeAt Go.RowKit Go.Deep Go.Joins

end Go.Proofs.Ytidjebepgpbcnaa
