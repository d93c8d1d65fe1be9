/-
  Chapter 2's walks: tests of a rune, atoms, Quote, Word.
-/
import Derived.Test.YtldfakcjimaaaaaDoorWordM
import Derived.Test.YtldfakcjimaaaaaDoorNumE
import Derived.Test.YtldfakcjimaaaaaDoorShelf
import Derived.Lib.OthersKept
import Derived.Laws.RangeAny
namespace Go.Proofs.YtldfakcjimaaaaaDoor
open Go.RowKit

theorem l1In_any (n a b : Int) (w : World) :
    Calls Tryd.prog 50 #[.int .i64 n, .int .i64 a, .int .i64 b] w fun e w' => e = .returned (.bool (decide (a ≤ n) && decide (n ≤ b))) ∧ w = w' := by
  by_cases h1 : a ≤ n
  · by_cases h2 : n ≤ b
    · rw [show (decide (a ≤ n) && decide (n ≤ b)) = true by simp [h1, h2]]
      go_enter Tryd.func50, Tryd.ntmps50
      go_wp2
      go_ret
      exact ⟨rfl, rfl⟩
    · rw [show (decide (a ≤ n) && decide (n ≤ b)) = false by simp [h2]]
      go_enter Tryd.func50, Tryd.ntmps50
      go_wp2
      go_ret
      exact ⟨rfl, rfl⟩
  · rw [show (decide (a ≤ n) && decide (n ≤ b)) = false by simp [h1]]
    go_enter Tryd.func50, Tryd.ntmps50
    go_wp2
    go_ret
    exact ⟨rfl, rfl⟩

theorem txtR_true {r : Int} (h1 : 32 ≤ r) (h2 : r ≤ 126) : txtR r = true := by simp [txtR, h1, h2]
theorem txtR_false {r : Int} (h : ¬ (32 ≤ r ∧ r ≤ 126)) : txtR r = false := by unfold txtR; rw [← Bool.decide_and]; exact decide_eq_false h

theorem inText_any (r : Int) (w : World) :
    Calls Tryd.prog 59 #[.int .i32 r] w fun e w' => e = .returned (.bool (txtR r)) ∧ w = w' := by
  by_cases h1 : 32 ≤ r
  · by_cases h2 : r ≤ 126
    · rw [txtR_true h1 h2]
      go_enter Tryd.func59, Tryd.ntmps59
      go_wp2
      go_ret
      exact ⟨rfl, rfl⟩
    · rw [txtR_false (by omega)]
      go_enter Tryd.func59, Tryd.ntmps59
      go_wp2
      go_ret
      exact ⟨rfl, rfl⟩
  · rw [txtR_false (by omega)]
    go_enter Tryd.func59, Tryd.ntmps59
    go_wp2
    go_ret
    exact ⟨rfl, rfl⟩

theorem isEscaped_any (r : Int) (h0 : 0 ≤ r) (h1 : r < 128) (w : World) :
    Calls Tryd.prog 60 #[.int .i32 r] w fun e w' => e = .returned (.bool (escR r)) ∧ w = w' := by
  have hc := fun W => Tryd.strings_ContainsRune_ascii ⟨#[34, 92]⟩ r W h0 h1
  rw [show (ByteArray.mk #[34, 92]).data.toList = [34, 92] from rfl, esc_idx r h0 h1] at hc
  have HC := Lib.hid hc
  clear hc
  go_enter Tryd.func60, Tryd.ntmps60
  go_wp2_with fail
  refine (HC.out _).mono ?_
  rintro e w' ⟨rfl, rfl⟩
  go_wp2
  go_ret
  exact ⟨rfl, rfl⟩

theorem atomR_no {r : Int} (h : ¬ (33 ≤ r ∧ r ≤ 126)) : atomR r = false := by
  unfold atomR; rw [← Bool.decide_and, decide_eq_false h]; rfl
theorem atomR_in {r : Int} (h1 : 33 ≤ r) (h2 : r ≤ 126) : atomR r = !bad5R r := by
  unfold atomR bad5R; simp [h1, h2]

theorem inAtom_any (r : Int) (h0 : 0 ≤ r) (w : World) :
    Calls Tryd.prog 52 #[.int .i32 r] w fun e w' => e = .returned (.bool (atomR r)) ∧ w = w' := by
  by_cases hs : r = 32
  · subst hs
    rw [atomR_no (by omega)]
    go_enter Tryd.func52, Tryd.ntmps52
    go_wp2
    go_ret
    exact ⟨rfl, rfl⟩
  have hs1 : (r == 32) = false := by simpa using hs
  have hs2 : (r != 32) = true := by simpa using hs
  by_cases h : 32 ≤ r ∧ r ≤ 126
  · rw [atomR_in (by omega) (by omega)]
    have ht := fun W => inText_any r W
    rw [txtR_true h.1 h.2] at ht
    have hc := fun W => Tryd.strings_ContainsRune_ascii ⟨#[40, 41, 123, 34, 92]⟩ r W h0 (by omega)
    rw [show (ByteArray.mk #[40, 41, 123, 34, 92]).data.toList = [40, 41, 123, 34, 92] from rfl, bad_idx r h0 (by omega)] at hc
    have HC := Lib.hid hc
    have HT := Lib.hid ht
    clear hc ht hs
    go_enter Tryd.func52, Tryd.ntmps52
    go_wp2_with fail
    refine (HT.out _).mono ?_
    rintro e w' ⟨rfl, rfl⟩
    go_wp2_with fail
    refine (HC.out _).mono ?_
    rintro e w' ⟨rfl, rfl⟩
    go_wp2
    go_ret
    exact ⟨rfl, rfl⟩
  · rw [atomR_no (by omega)]
    have ht := fun W => inText_any r W
    rw [txtR_false h] at ht
    have HT := Lib.hid ht
    clear ht hs h
    go_enter Tryd.func52, Tryd.ntmps52
    go_wp2_with fail
    refine (HT.out _).mono ?_
    rintro e w' ⟨rfl, rfl⟩
    go_wp2
    go_ret
    exact ⟨rfl, rfl⟩

end Go.Proofs.YtldfakcjimaaaaaDoor
