/-
  Chapter 10 in words: a commit that is right, the event of a commit, whether a commit applies.
-/
import Derived.Test.YthjeeggejkpjgaaTyCommit
import Derived.Test.YthjeeggejkpjgaaBoxA
namespace Go.Proofs.Ythjeeggejkpjgaa
open Go.RowKit

deriving instance DecidableEq for ComD
/-- What a commit of its kind says. -/
def wantC (m : ComD) : ComD :=
  if m.kind = 1 ∨ m.kind = 3 then ⟨m.kind, m.validity, 0, 0, m.name, []⟩
  else if m.kind = 4 then ⟨m.kind, m.validity, m.uid, m.flags, [], m.text⟩
  else if m.kind = 5 then ⟨m.kind, m.validity, m.uid, m.flags, [], []⟩
  else if m.kind = 6 then ⟨m.kind, m.validity, m.uid, 0, [], []⟩
  else ⟨m.kind, m.validity, 0, 0, [], []⟩
def commitB (m : ComD) : Bool :=
  (decide (1 ≤ m.kind) && decide (m.kind ≤ 6)) && num9 m.validity && decide (wantC m = m) &&
  if m.kind = 1 ∨ m.kind = 3 then nameB m.name else m.kind == 2 || ((decide (1 ≤ m.uid) && decide (m.uid ≤ 999999998)) && flB m.flags && decide ((m.text.length : Int) ≤ 40))
def evOf (k : Int) : Int := if k = 1 ∨ k = 2 ∨ k = 3 then 8 else if k = 4 then 1 else if k = 5 then 4 else if k = 6 then 2 else 0

end Go.Proofs.Ythjeeggejkpjgaa
