/-
  Chapter 9, the model: BoxNamed, BoxWith, PlaceOf, UidsOf.
-/
import Derived.Test.YthjeeggejkpjgaaLawBoxNamed
import Derived.Test.YthjeeggejkpjgaaLawBoxWith
import Derived.Test.YthjeeggejkpjgaaLawPlaceOf
import Derived.Test.YthjeeggejkpjgaaLawUidsOf
import Derived.Test.YthjeeggejkpjgaaGg
namespace Go.Proofs.Ythjeeggejkpjgaa
open Go.RowKit

theorem uids_take {l : List MsgD} {k : Nat} {m : MsgD} (h : l[k]? = some m) : (l.take (k + 1)).map (·.uid) = (l.take k).map (·.uid) ++ [m.uid] := by
  obtain ⟨h1, h2⟩ := List.getElem?_eq_some_iff.1 h
  rw [List.take_succ_eq_append_getElem h1, h2, List.map_append]; rfl

end Go.Proofs.Ythjeeggejkpjgaa
