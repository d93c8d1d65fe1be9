/-
  Chapter 2's walks: AtomOk, the model's and the program's.
-/
import Derived.Test.YthihjelcakenpaaWordA
namespace Go.Proofs.Ythihjelcakenpaa
open Go.RowKit

theorem atomR_of {r : Int} (h1 : ¬ r < 33) (h2 : ¬ 126 < r) (h3 : ¬ r = 40) (h4 : ¬ r = 41) (h5 : ¬ r = 123) (h6 : ¬ r = 34) (h7 : ¬ r = 92) : atomR r = true := by
  rw [atomR_in (by omega) (by omega)]; simp [bad5R, h3, h4, h5, h6, h7]
theorem atomR_not {r : Int} (h : r < 33 ∨ 126 < r ∨ r = 40 ∨ r = 41 ∨ r = 123 ∨ r = 34 ∨ r = 92) : atomR r = false := by
  by_cases h1 : r < 33
  · exact atomR_no (by omega)
  by_cases h2 : 126 < r
  · exact atomR_no (by omega)
  rw [atomR_in (by omega) (by omega)]
  have h3 : r = 40 ∨ r = 41 ∨ r = 123 ∨ r = 34 ∨ r = 92 := by omega
  rcases h3 with rfl | rfl | rfl | rfl | rfl <;> rfl
theorem atomB_bad (s : ByteArray) (k : Nat) (h : k < s.size) (hn : atomR (s[k].toNat : Int) = false) : atomB s.data.toList = false := by
  rw [atomR_byte] at hn
  unfold atomB; rw [all_not atomc s k h hn]; rfl
theorem atomB_end (s : ByteArray) (h : s.data.toList.all atomc = true) : atomB s.data.toList = (decide ((1 : Int) ≤ (s.size : Int)) && decide ((s.size : Int) ≤ 40)) := by
  unfold atomB; rw [h, str_len]
  have e1 : (1 ≤ s.size) = ((1 : Int) ≤ (s.size : Int)) := by rw [eq_iff_iff]; omega
  have e2 : (s.size ≤ 40) = ((s.size : Int) ≤ 40) := by rw [eq_iff_iff]; omega
  simp only [e1, e2, Bool.true_and]

/-- Where an iterator stands. -/
theorem iter_pos {w : World} {k pos : Nat} {s : ByteArray} (h : w.heap[k]? = some (.stringIter s pos)) : w.iterPos k = pos := by simp [World.iterPos, h]

end Go.Proofs.Ythihjelcakenpaa
