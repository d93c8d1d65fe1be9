/-
  The laws' own helpers on slices of strings: equality, marks.
-/
import Derived.Test.YtjfjadfhcljlbaaSlc
import Derived.Test.YtjfjadfhcljlbaaNumE
namespace Go.Proofs.Ytjfjadfhcljlbaa
open Go.RowKit
open Go.Lib (decDigits itoa)

/-- The law's mark number k. -/
def markB (k : Nat) : List UInt8 := if k = 0 then [109, 48] else 109 :: decDigits k

/-- The marks from number k on, as many as n. -/
def marks (k n : Nat) : List (List UInt8) := (List.range n).map fun i => markB (k + i)
theorem marks_length (k n : Nat) : (marks k n).length = n := by simp [marks]
theorem marks_at (k n i : Nat) (h : i < n) : (marks k n)[i]? = some (markB (k + i)) := by simp [marks, h]
/-- The first j elements marked. -/
def marked (l : List (List UInt8)) (k j : Nat) : List (List UInt8) := marks k j ++ l.drop j
theorem marked_zero (l : List (List UInt8)) (k : Nat) : marked l k 0 = l := by simp [marked, marks]
theorem marked_all (l : List (List UInt8)) (k : Nat) : marked l k l.length = marks k l.length := by simp [marked]
theorem marked_length (l : List (List UInt8)) (k j : Nat) (h : j ≤ l.length) : (marked l k j).length = l.length := by simp [marked, marks_length]; omega
theorem marked_set (l : List (List UInt8)) (k j : Nat) (h : j < l.length) : (marked l k j).set j (markB (k + j)) = marked l k (j + 1) := by
  unfold marked
  rw [List.set_append_right _ _ (by rw [marks_length]; omega), marks_length, Nat.sub_self, List.drop_eq_getElem_cons h, List.set_cons_zero]
  have : marks k (j + 1) = marks k j ++ [markB (k + j)] := by simp [marks, List.range_succ]
  rw [this, List.append_assoc]
  rfl

end Go.Proofs.Ytjfjadfhcljlbaa
