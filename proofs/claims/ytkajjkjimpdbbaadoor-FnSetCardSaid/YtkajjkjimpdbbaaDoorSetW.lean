/-
  Chapter 4: what FnSet asks of the program, together.
-/
import Derived.Test.YtkajjkjimpdbbaaDoorSetV
import Derived.Test.YtkajjkjimpdbbaaDoorSetU
namespace Go.Proofs.YtkajjkjimpdbbaaDoor
open Go.RowKit

theorem fnSet_any (v : Value) (code : List UInt8) (w : World) (hG : TM w) (hr : Rd1 bv w v code) :
    Calls Tryd.prog 3 #[v] w fun e w' => e = .returned (.bool true) ∧ Below w.heap.size w w' :=
  FnSet_of TM.keeps (fun v l W _ hr hl hx => implSetOk_any v l W trivial hr hl hx) (fun v l W hG => implSetText_any v l W hG.1) implReadSet_any v code w hG hr

end Go.Proofs.YtkajjkjimpdbbaaDoor
