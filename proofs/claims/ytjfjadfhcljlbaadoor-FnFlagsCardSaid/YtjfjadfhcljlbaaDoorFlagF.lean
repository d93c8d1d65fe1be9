/-
  Chapter 5: draws and program together.
-/
import Derived.Test.YtjfjadfhcljlbaaDoorFlagD
import Derived.Test.YtjfjadfhcljlbaaDoorFlagE
namespace Go.Proofs.YtjfjadfhcljlbaaDoor
end Go.Proofs.YtjfjadfhcljlbaaDoor
