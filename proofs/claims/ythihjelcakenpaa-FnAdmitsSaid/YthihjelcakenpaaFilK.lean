/-
  Chapter 6: tokens taken one by one (l6Take).
-/
import Derived.Test.YthihjelcakenpaaFilJ
import Derived.Test.YthihjelcakenpaaGc
namespace Go.Proofs.Ythihjelcakenpaa
open Go.RowKit

def takeV (l : List Tok) (at_ : Nat) (kind : Int) : Option (List UInt8) :=
  match l[at_]? with
  | some t => if t.kind = kind ∧ (kind = 1 ∨ t.text = []) then some t.text else none
  | none => none

end Go.Proofs.Ythihjelcakenpaa
