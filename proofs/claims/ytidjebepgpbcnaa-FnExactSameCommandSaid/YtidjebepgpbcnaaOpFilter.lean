/-
  Arguments of the type Filter, opened (made by tools/typegen.py).
-/
import Derived.Test.YtidjebepgpbcnaaLgO
import Derived.Test.YtidjebepgpbcnaaTyFilter
import Derived.Test.YtidjebepgpbcnaaOpScope
namespace Go.Proofs.Ytidjebepgpbcnaa
open Go.ChangeShapes Go.WideShapes Go.ChangeAt Go.RowKit Go.Deep Go.Joins

end Go.Proofs.Ytidjebepgpbcnaa
