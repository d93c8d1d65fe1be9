/-
  Chapter 6: the words of scopes and events; tokens made.
-/
import Derived.Test.YthihjelcakenpaaFilI
import Derived.Test.YthihjelcakenpaaGd
namespace Go.Proofs.Ythihjelcakenpaa
open Go.RowKit

def scWords : List (List UInt8) := [[], [115, 101, 108, 101, 99, 116, 101, 100], [112, 101, 114, 115, 111, 110, 97, 108], [115, 117, 98, 116, 114, 101, 101], [98, 111, 120, 101, 115]]
def evWords : List (List UInt8) := [[110, 101, 119], [103, 111, 110, 101], [102, 108, 97, 103, 115], [110, 97, 109, 101, 115]]

end Go.Proofs.Ythihjelcakenpaa
