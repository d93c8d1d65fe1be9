/-
  Chapter 6: valid scopes and filters.
-/
import Derived.Test.YthjeeggejkpjgaaGh
import Derived.Test.YthjeeggejkpjgaaGc
import Derived.Test.YthjeeggejkpjgaaGg
namespace Go.Proofs.Ythjeeggejkpjgaa
open Go.RowKit

def stepB (l : List (List UInt8)) (i : Nat) : Bool := nameB (l.getD i []) && (i == 0 || Op.bytesLess (l.getD (i - 1) []) (l.getD i []))
def namesB (l : List (List UInt8)) : Bool := (List.range l.length).all (stepB l)
def scopeB (s : Scp) : Bool := (decide (1 ≤ s.kind) && decide (s.kind ≤ 4)) && (decide (1 ≤ s.events) && decide (s.events ≤ 15)) &&
  if s.kind < 3 then decide (s.names.length = 0) else namesB s.names && (decide ((1 : Int) ≤ (s.names.length : Int)) && decide ((s.names.length : Int) ≤ 3))
def filterB (f : Flt) : Bool := f.scopes.all scopeB && if f.on then (decide ((1 : Int) ≤ (f.scopes.length : Int)) && decide ((f.scopes.length : Int) ≤ 3)) else decide (f.scopes.length = 0)
theorem namesB_not {l : List (List UInt8)} {k : Nat} (hk : k < l.length) (h : stepB l k = false) : namesB l = false := all_not_at (k := k) (x := k) (by simp [hk]) h
theorem getD_of {l : List (List UInt8)} {k : Nat} {x : List UInt8} (h : l[k]? = some x) : l.getD k [] = x := by rw [List.getD_eq_getElem?_getD, h]; rfl
theorem step_zero {l : List (List UInt8)} {x : List UInt8} (h : l[0]? = some x) : stepB l 0 = nameB x := by unfold stepB; rw [getD_of h]; simp
theorem step_succ {l : List (List UInt8)} {j : Nat} {y x : List UInt8} (hy : l[j]? = some y) (h : l[j + 1]? = some x) : stepB l (j + 1) = (nameB x && Op.bytesLess y x) := by
  unfold stepB
  rw [getD_of h, Nat.add_sub_cancel, getD_of hy]
  rfl
theorem range_all_succ {l : List (List UInt8)} {k : Nat} (h : (List.range k).all (stepB l) = true) (hs : stepB l k = true) : (List.range (k + 1)).all (stepB l) = true := by
  rw [List.range_succ, List.all_append, h]
  simp [hs]

end Go.Proofs.Ythjeeggejkpjgaa
