/-
  For every two commands laws.FnExactSameCommand returns true.
-/
import Derived.Test.YtidjebepgpbcnaaCmdM
import Derived.Test.YtidjebepgpbcnaaLawS
import Derived.Test.YtidjebepgpbcnaaLgO
import Derived.Test.YtidjebepgpbcnaaOpCommand
namespace Go.Proofs.Ytidjebepgpbcnaa
open Go.ChangeShapes Go.WideShapes Go.ChangeAt Go.RowKit
open Go.ChangeMaps (open_string)

end Go.Proofs.Ytidjebepgpbcnaa
