/-
  Arguments of the type Scope, opened (made by tools/typegen.py).
-/
import Derived.Test.YtidjebepgpbcnaaLgO
import Derived.Test.YtidjebepgpbcnaaTyScope
namespace Go.Proofs.Ytidjebepgpbcnaa
open Go.ChangeShapes Go.WideShapes Go.ChangeAt Go.RowKit Go.Deep Go.Joins

end Go.Proofs.Ytidjebepgpbcnaa
