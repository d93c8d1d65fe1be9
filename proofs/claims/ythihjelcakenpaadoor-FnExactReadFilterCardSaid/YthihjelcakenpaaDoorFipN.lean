/-
  Chapter 6, the program: ReadFilter reads what the model's reads.
-/
import Derived.Test.YthihjelcakenpaaDoorFipK
import Derived.Test.YthihjelcakenpaaDoorFipL
namespace Go.Proofs.YthihjelcakenpaaDoor

theorem implReadFilter_any : ImplReadFilter Ew := implReadFilter_of scopeFrom_any

end Go.Proofs.YthihjelcakenpaaDoor
