/-
  Chapter 2's walks: Under, the model's and the program's.
-/
import Derived.Test.YtldfakcjimaaaaaDoorWordF
namespace Go.Proofs.YtldfakcjimaaaaaDoor
open Go.RowKit

theorem under_no1 {x y : List UInt8} (h : nameB x = false) : underB x y = false := by unfold underB; rw [h]; rfl
theorem under_no2 {x y : List UInt8} (h : nameB y = false) : underB x y = false := by unfold underB; rw [h]; simp
theorem under_eq {x y : List UInt8} (h1 : nameB x = true) (h2 : nameB y = true) (h : x = y) : underB x y = true := by unfold underB; rw [h1, h2]; simp [h]
theorem under_ne {x y : List UInt8} (h1 : nameB x = true) (h2 : nameB y = true) (h : ¬ x = y) : underB x y = Lib.hasPrefix x (y ++ [47]) := by unfold underB; rw [h1, h2]; simp [h]
theorem nameB_len {x : List UInt8} (h : nameB x = true) : x.length ≤ 12 := by unfold nameB at h; simp only [Bool.and_eq_true, decide_eq_true_eq] at h; exact h.2
theorem beq_dec (a b : List UInt8) : (a == b) = decide (a = b) := by rw [Bool.eq_iff_iff]; simp
theorem beq_lists {x y : ByteArray} : (x.toList == y.toList) = decide (x.data.toList = y.data.toList) := by
  rw [Lib.toList_data, Lib.toList_data, beq_dec]

theorem pre_short {x y : List UInt8} (h : ¬ y.length < x.length) : Lib.hasPrefix x (y ++ [47]) = false := by
  unfold Lib.hasPrefix
  rw [Bool.eq_false_iff]
  intro hc
  rw [List.isPrefixOf_iff_prefix] at hc
  have := hc.length_le
  simp at this
  omega
theorem pre_take {x y : List UInt8} (h : y.length < x.length) : Lib.hasPrefix x (y ++ [47]) = (decide (x.take y.length = y) && decide (x[y.length] = 47)) := by
  unfold Lib.hasPrefix
  rw [Bool.eq_iff_iff]
  simp only [Bool.and_eq_true, decide_eq_true_eq, List.isPrefixOf_iff_prefix]
  constructor
  · rintro ⟨t, rfl⟩
    simp
  · rintro ⟨h1, h2⟩
    refine ⟨x.drop (y.length + 1), ?_⟩
    have : x = x.take y.length ++ x.drop y.length := (List.take_append_drop _ _).symm
    rw [List.drop_eq_getElem_cons h, h1, h2] at this
    rw [this]
    simp

end Go.Proofs.YtldfakcjimaaaaaDoor
