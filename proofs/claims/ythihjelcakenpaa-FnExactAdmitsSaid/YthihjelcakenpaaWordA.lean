/-
  Chapter 2's walks: tests of a rune, atoms, Quote, Word.
-/
import Derived.Test.YthihjelcakenpaaWordM
import Derived.Test.YthihjelcakenpaaNumE
import Derived.Test.YthihjelcakenpaaShelf
import Derived.Lib.OthersKept
import Derived.Laws.RangeAny
namespace Go.Proofs.Ythihjelcakenpaa
open Go.RowKit

theorem l1In_any (n a b : Int) (w : World) :
    Calls Try.prog 41 #[.int .i64 n, .int .i64 a, .int .i64 b] w fun e w' => e = .returned (.bool (decide (a ≤ n) && decide (n ≤ b))) ∧ w = w' := by
  by_cases h1 : a ≤ n
  · by_cases h2 : n ≤ b
    · rw [show (decide (a ≤ n) && decide (n ≤ b)) = true by simp [h1, h2]]
      go_enter Try.func41, Try.ntmps41
      go_wp2
      go_ret
      exact ⟨rfl, rfl⟩
    · rw [show (decide (a ≤ n) && decide (n ≤ b)) = false by simp [h2]]
      go_enter Try.func41, Try.ntmps41
      go_wp2
      go_ret
      exact ⟨rfl, rfl⟩
  · rw [show (decide (a ≤ n) && decide (n ≤ b)) = false by simp [h1]]
    go_enter Try.func41, Try.ntmps41
    go_wp2
    go_ret
    exact ⟨rfl, rfl⟩

theorem txtR_true {r : Int} (h1 : 32 ≤ r) (h2 : r ≤ 126) : txtR r = true := by simp [txtR, h1, h2]
theorem txtR_false {r : Int} (h : ¬ (32 ≤ r ∧ r ≤ 126)) : txtR r = false := by unfold txtR; rw [← Bool.decide_and]; exact decide_eq_false h

theorem atomR_no {r : Int} (h : ¬ (33 ≤ r ∧ r ≤ 126)) : atomR r = false := by
  unfold atomR; rw [← Bool.decide_and, decide_eq_false h]; rfl
theorem atomR_in {r : Int} (h1 : 33 ≤ r) (h2 : r ≤ 126) : atomR r = !bad5R r := by
  unfold atomR bad5R; simp [h1, h2]

end Go.Proofs.Ythihjelcakenpaa
