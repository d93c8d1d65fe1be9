/-
  Chapter 6: the model's FilterTokens.
-/
import Derived.Test.YthihjelcakenpaaFilL
namespace Go.Proofs.Ythihjelcakenpaa
open Go.RowKit

end Go.Proofs.Ythihjelcakenpaa
