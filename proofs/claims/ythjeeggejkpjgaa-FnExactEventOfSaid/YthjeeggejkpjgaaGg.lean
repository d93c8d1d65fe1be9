/-
  Gg: SetA, SetB, SetC, SetD.
-/
import Derived.Test.YthjeeggejkpjgaaGa
import Derived.Test.YthjeeggejkpjgaaGc
import Derived.Handy
import Derived.IntWalk

/-
  Chapter 4: spans; the model's SetOk, Members, MembersOf.
-/
namespace Go.Proofs.Ythjeeggejkpjgaa
open Go.RowKit

structure Spn where
  low : Int
  high : Int

abbrev spnv (s : Spn) : Value := .agg #[.int .i64 s.low, .int .i64 s.high]
def spnc (s : Spn) : List Value := [.int .i64 s.low, .int .i64 s.high]
def numB (n : Int) : Bool := decide (0 ≤ n) && decide (n ≤ 999999999)
def spnB (s : Spn) : Bool := numB s.low && numB s.high
def setB (l : List Spn) : Bool := l.all spnB && (decide (1 ≤ l.length) && decide (l.length ≤ 5))
def minI (a b : Int) : Int := if a < b then a else b
def maxI (a b : Int) : Int := if b < a then a else b
def endI (x last : Int) : Int := if x = 0 then last else x
def inSpn (x last : Int) (s : Spn) : Bool := decide (minI (endI s.low last) (endI s.high last) ≤ x) && decide (x ≤ maxI (endI s.low last) (endI s.high last))
def inB (l : List Spn) (x last : Int) : Bool := l.any (inSpn x last)
/-- The numbers from 1 on, as many as k. -/
def upTo (k : Nat) : List Int := (List.range k).map fun (i : Nat) => (i : Int) + 1
def membersL (l : List Spn) (n : Int) : List Int := (upTo (minI n 999).toNat).filter fun x => inB l x (minI n 999)
def lastId : List Int → Int
  | [] => 0
  | a :: r => (a :: r).foldl maxI a
def membersOfL (l : List Spn) (ids : List Int) : List Int := ids.filter fun x => inB l x (lastId ids)
theorem upTo_succ (k : Nat) : upTo (k + 1) = upTo k ++ [(k : Int) + 1] := by simp [upTo, List.range_succ]
theorem all_not_at {α : Type} {p : α → Bool} {l : List α} {k : Nat} {x : α} (h : l[k]? = some x) (hp : p x = false) : l.all p = false := by
  rw [Bool.eq_false_iff]
  intro hc
  rw [List.all_eq_true] at hc
  rw [hc x (List.mem_of_getElem? h)] at hp
  cases hp
theorem any_at {α : Type} {p : α → Bool} {l : List α} {k : Nat} {x : α} (h : l[k]? = some x) (hp : p x = true) : l.any p = true := List.any_eq_true.2 ⟨x, List.mem_of_getElem? h, hp⟩
theorem take_at {α : Type} {l : List α} {k : Nat} {x : α} (h : l[k]? = some x) : l.take (k + 1) = l.take k ++ [x] := by
  obtain ⟨h1, h2⟩ := List.getElem?_eq_some_iff.1 h
  rw [List.take_succ_eq_append_getElem h1, h2]
/-- Element k of a slice of pairs. -/
theorem Rd.pair {w : World} {b off k : Nat} {l : List Spn} {x : Spn} (hc : ∀ i x, l[i]? = some x → ∀ j u, (spnc x)[j]? = some u → w.cell? ⟨b, off + i * 2 + j, none⟩ = some u) (h : l[k]? = some x) :
    w.cell? ⟨b, off + k * 2, none⟩ = some (.int .i64 x.low) ∧ w.cell? ⟨b, off + k * 2 + 1, none⟩ = some (.int .i64 x.high) := ⟨hc k x h 0 _ rfl, hc k x h 1 _ rfl⟩

end Go.Proofs.Ythjeeggejkpjgaa

/-
  Chapter 4's walks: the model's Members and MembersOf.
-/
namespace Go.Proofs.Ythjeeggejkpjgaa
open Go.RowKit

theorem upTo_mem {k : Nat} {x : Int} (h : x ∈ upTo k) : 1 ≤ x ∧ x ≤ k := by
  simp only [upTo, List.mem_map, List.mem_range] at h
  obtain ⟨i, hi, rfl⟩ := h
  omega
theorem filter_upTo_yes {p : Int → Bool} {k : Nat} (h : p ((k : Int) + 1) = true) : (upTo (k + 1)).filter p = (upTo k).filter p ++ [(k : Int) + 1] := by rw [upTo_succ, List.filter_append]; simp [h]
theorem filter_upTo_no {p : Int → Bool} {k : Nat} (h : p ((k : Int) + 1) = false) : (upTo (k + 1)).filter p = (upTo k).filter p := by rw [upTo_succ, List.filter_append]; simp [h]
theorem filter_upTo_le (p : Int → Bool) (k : Nat) : ((upTo k).filter p).length ≤ k := by have := List.length_filter_le p (upTo k); simpa [upTo] using this

theorem foldl_snoc (a : Int) (l : List Int) (x : Int) : (l ++ [x]).foldl maxI a = maxI (l.foldl maxI a) x := by simp
theorem filter_snoc_yes {p : Int → Bool} {l : List Int} {x : Int} (h : p x = true) : (l ++ [x]).filter p = l.filter p ++ [x] := by rw [List.filter_append]; simp [h]
theorem filter_snoc_no {p : Int → Bool} {l : List Int} {x : Int} (h : p x = false) : (l ++ [x]).filter p = l.filter p := by rw [List.filter_append]; simp [h]

end Go.Proofs.Ythjeeggejkpjgaa

/-
  Chapter 4: the laws' own helpers on spans and numbers: copy, equality, marks.
-/
namespace Go.Proofs.Ythjeeggejkpjgaa
open Go.RowKit

/-- The numbers k, k + 1 .., as many as n. -/
def imarks (k n : Nat) : List Int := (List.range n).map fun (i : Nat) => ((k + i : Nat) : Int)
theorem imarks_length (k n : Nat) : (imarks k n).length = n := by simp [imarks]
theorem imarks_succ (k n : Nat) : imarks k (n + 1) = imarks k n ++ [((k + n : Nat) : Int)] := by simp [imarks, List.range_succ]
theorem imarks_at (k n i : Nat) (h : i < n) : (imarks k n)[i]? = some ((k + i : Nat) : Int) := by simp [imarks, h]
/-- One cell of an owned row is set, those ahead of it are done. -/
theorem own_one {w : World} {B g n c j : Nat} {e : TypeId} {A rest : List Value} (h : w.ownsRow B e 1 (.slice (some ⟨g, 0, none⟩) n c) n (A ++ rest)) (hA : A.length = j) (hj : j < n) (x : Value) :
    (∃ rest', (w.setCell ⟨g, j, none⟩ x).ownsRow B e 1 (.slice (some ⟨g, 0, none⟩) n c) n ((A ++ [x]) ++ rest')) ∧ (∃ u, w.cell? ⟨g, j, none⟩ = some u) ∧ w.frozen? ⟨g, j, none⟩ = false := by
  have hl : (A ++ rest).length = n := by have := h.1; simpa using this
  have hl0 := hl
  rw [List.length_append, hA] at hl
  refine ⟨?_, ⟨(A ++ rest)[j]'(by omega), by rw [h.cellAt j (by omega)]; exact List.getElem?_eq_getElem _⟩, h.frozenAt _⟩
  cases rest with
  | nil => simp at hl; omega
  | cons r0 r =>
    have h1 := (h.stored j x).1
    rw [List.set_append_right _ _ (by omega), hA, Nat.sub_self, List.set_cons_zero] at h1
    exact ⟨r, by simpa using h1⟩

/-- The marks that the law lays into n spans from number k on. -/
def smarks (k n : Nat) : List Spn := (List.range n).map fun (i : Nat) => ⟨((k + 2 * i : Nat) : Int), ((k + 2 * i + 1 : Nat) : Int)⟩
theorem smarks_length (k n : Nat) : (smarks k n).length = n := by simp [smarks]
theorem smarks_succ (k n : Nat) : smarks k (n + 1) = smarks k n ++ [⟨((k + 2 * n : Nat) : Int), ((k + 2 * n + 1 : Nat) : Int)⟩] := by simp [smarks, List.range_succ]
theorem smarks_at (k n i : Nat) (h : i < n) : (smarks k n)[i]? = some ⟨((k + 2 * i : Nat) : Int), ((k + 2 * i + 1 : Nat) : Int)⟩ := by simp [smarks, h]

end Go.Proofs.Ythjeeggejkpjgaa

/-
  Chapter 4: the laws' helpers: sameInts, times, at0, heldSpanS.
-/
namespace Go.Proofs.Ythjeeggejkpjgaa
open Go.RowKit

theorem count_take {l : List Int} {k : Nat} {y : Int} (h : l[k]? = some y) (x : Int) : (l.take (k + 1)).count x = (l.take k).count x + (if (y == x) = true then 1 else 0) := by
  rw [take_at h, List.count_append, List.count_singleton]

end Go.Proofs.Ythjeeggejkpjgaa

