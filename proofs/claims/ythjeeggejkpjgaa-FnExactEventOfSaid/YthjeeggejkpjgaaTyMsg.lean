/-
  The laws' helpers on records of the type Msg (made by tools/typegen.py).
-/
import Derived.Test.YthjeeggejkpjgaaLg
import Derived.Test.YthjeeggejkpjgaaLgB
import Derived.Handy
import Derived.IntWalk
namespace Go.Proofs.Ythjeeggejkpjgaa
open Go.RowKit

structure MsgD where
  uid : Int
  flags : Int
  text : List UInt8

end Go.Proofs.Ythjeeggejkpjgaa
