/-
  Chapter 4's walks: the model's Members and MembersOf.
-/
import Derived.Test.YtkajjkjimpdbbaaDoorSetA
namespace Go.Proofs.YtkajjkjimpdbbaaDoor
open Go.RowKit

abbrev iv (n : Int) : Value := .int .i64 n
theorem Tryd.el_int : Elem Tryd.prog 58 3 1 8 := Elem.mk' (z := .int .i64 0) Tryd.underlying58 (by kernel_rfl) rfl (by omega)

/-- Numbers that the call made. -/
def IntsPost (ids : List Int) (w : World) (e : Ending) (w' : World) : Prop := ∃ v, e = .returned v ∧ w'.ownsRow w.heap.size 3 1 v ids.length (ids.map iv) ∧ Below w.heap.size w w'

theorem upTo_mem {k : Nat} {x : Int} (h : x ∈ upTo k) : 1 ≤ x ∧ x ≤ k := by
  simp only [upTo, List.mem_map, List.mem_range] at h
  obtain ⟨i, hi, rfl⟩ := h
  omega
theorem filter_upTo_yes {p : Int → Bool} {k : Nat} (h : p ((k : Int) + 1) = true) : (upTo (k + 1)).filter p = (upTo k).filter p ++ [(k : Int) + 1] := by rw [upTo_succ, List.filter_append]; simp [h]
theorem filter_upTo_no {p : Int → Bool} {k : Nat} (h : p ((k : Int) + 1) = false) : (upTo (k + 1)).filter p = (upTo k).filter p := by rw [upTo_succ, List.filter_append]; simp [h]
theorem filter_upTo_le (p : Int → Bool) (k : Nat) : ((upTo k).filter p).length ≤ k := by have := List.length_filter_le p (upTo k); simpa [upTo] using this

theorem foldl_snoc (a : Int) (l : List Int) (x : Int) : (l ++ [x]).foldl maxI a = maxI (l.foldl maxI a) x := by simp
theorem filter_snoc_yes {p : Int → Bool} {l : List Int} {x : Int} (h : p x = true) : (l ++ [x]).filter p = l.filter p ++ [x] := by rw [List.filter_append]; simp [h]
theorem filter_snoc_no {p : Int → Bool} {l : List Int} {x : Int} (h : p x = false) : (l ++ [x]).filter p = l.filter p := by rw [List.filter_append]; simp [h]

end Go.Proofs.YtkajjkjimpdbbaaDoor
