/-
  The laws' helpers on records of the type Box (made by tools/typegen.py).
-/
import Derived.Test.YthjeeggejkpjgaaLg
import Derived.Test.YthjeeggejkpjgaaLgB
import Derived.Test.YthjeeggejkpjgaaTyMsg
import Derived.Handy
import Derived.IntWalk
namespace Go.Proofs.Ythjeeggejkpjgaa
open Go.RowKit

structure BoxD where
  name : List UInt8
  validity : Int
  next : Int
  msgs : List MsgD

end Go.Proofs.Ythjeeggejkpjgaa
