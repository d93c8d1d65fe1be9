/-
  Chapter 9, the program: BoxOk, UidsOf, PlaceOf, SameBox, SameBoxes (made by tools/gen_boxg.py).
-/
import Derived.Test.YthjeeggejkpjgaaLawBoxOk
import Derived.Test.YthjeeggejkpjgaaLawSameBox
import Derived.Test.YthjeeggejkpjgaaLawSameBoxes
import Derived.Test.YthjeeggejkpjgaaBoxB
import Derived.Test.YthjeeggejkpjgaaGc
import Derived.Test.YthjeeggejkpjgaaGg
import Derived.Test.YthjeeggejkpjgaaRow
namespace Go.Proofs.Ythjeeggejkpjgaa
open Go.RowKit

theorem idOk_any (n : Int) (w : World) :
    Calls Try.prog 16 #[.int .i64 n] w fun e w' => e = .returned (.bool (num9 n)) ∧ w = w' := by
  have hg := Lib.hid (show num9 n = (decide (1 ≤ n) && decide (n ≤ 999999999)) from rfl)
  go_enter Try.func16, Try.ntmps16
  cases h1 : decide (1 ≤ n) with
  | true =>
    have h1 : 1 ≤ n := of_decide_eq_true h1
    cases h2 : decide (n ≤ 999999999) with
    | true =>
      have h2 : n ≤ 999999999 := of_decide_eq_true h2
      go_wp2
      go_ret
      exact ⟨by rw [hg.out]; simp [h1, h2], rfl⟩
    | false =>
      have h2 : ¬ n ≤ 999999999 := of_decide_eq_false h2
      go_wp2
      go_ret
      exact ⟨by rw [hg.out]; simp; omega, rfl⟩
  | false =>
    have h1 : ¬ 1 ≤ n := of_decide_eq_false h1
    go_wp2
    go_ret
    exact ⟨by rw [hg.out]; simp; omega, rfl⟩

theorem flagsOk9_any (n : Int) (w : World) :
    Calls Try.prog 19 #[.int .i64 n] w fun e w' => e = .returned (.bool (flB n)) ∧ w = w' := by
  have hg := Lib.hid (show flB n = (decide (0 ≤ n) && decide (n ≤ 31)) from rfl)
  go_enter Try.func19, Try.ntmps19
  cases h1 : decide (0 ≤ n) with
  | true =>
    have h1 : 0 ≤ n := of_decide_eq_true h1
    cases h2 : decide (n ≤ 31) with
    | true =>
      have h2 : n ≤ 31 := of_decide_eq_true h2
      go_wp2
      go_ret
      exact ⟨by rw [hg.out]; simp [h1, h2], rfl⟩
    | false =>
      have h2 : ¬ n ≤ 31 := of_decide_eq_false h2
      go_wp2
      go_ret
      exact ⟨by rw [hg.out]; simp; omega, rfl⟩
  | false =>
    have h1 : ¬ 0 ≤ n := of_decide_eq_false h1
    go_wp2
    go_ret
    exact ⟨by rw [hg.out]; simp; omega, rfl⟩

/-- The last Uid ahead of place k. -/
def lastU (b : BoxD) : Nat → Int
  | 0 => 0
  | j + 1 => ((b.msgs[j]?).map (·.uid)).getD 0
theorem lastU_succ {b : BoxD} {k : Nat} {m : MsgD} (h : b.msgs[k]? = some m) : lastU b (k + 1) = m.uid := by simp only [lastU, h]; rfl
theorem msg_last {b : BoxD} {k : Nat} {m : MsgD} (hall : (List.range k).all (msgStep b) = true) (hm : b.msgs[k]? = some m) :
    msgStep b k = (decide (lastU b k < m.uid) && decide (m.uid < b.next) && flB m.flags && decide ((m.text.length : Int) ≤ 40)) := by
  cases k with
  | zero =>
    unfold msgStep
    rw [hm]
    have e1 : decide (1 ≤ m.uid) = decide (lastU b 0 < m.uid) := by rw [decide_eq_decide]; simp only [lastU]; omega
    have e2 : decide (m.uid ≤ b.next - 1) = decide (m.uid < b.next) := by rw [decide_eq_decide]; omega
    simp only [e1, e2, Bool.and_true]
  | succ j =>
    obtain ⟨q, hq⟩ : ∃ q, b.msgs[j]? = some q := ⟨_, List.getElem?_eq_getElem (by have := (List.getElem?_eq_some_iff.1 hm).1; omega)⟩
    have h1 := range_at hall (Nat.lt_succ_self j)
    have hq1 : 1 ≤ q.uid := by
      unfold msgStep at h1
      rw [hq] at h1
      simp only [Bool.and_eq_true, decide_eq_true_eq] at h1
      exact h1.1.1.1.1
    rw [lastU_succ hq]
    unfold msgStep
    rw [hm]
    simp only [hq]
    have e2 : decide (m.uid ≤ b.next - 1) = decide (m.uid < b.next) := by rw [decide_eq_decide]; omega
    have e3 : (decide (1 ≤ m.uid) && decide (m.uid < b.next) && decide (q.uid < m.uid)) = (decide (q.uid < m.uid) && decide (m.uid < b.next)) := by
      rw [Bool.eq_iff_iff]
      simp only [Bool.and_eq_true, decide_eq_true_eq]
      omega
    rw [e2, e3]
def msgsB (b : BoxD) : Bool := (List.range b.msgs.length).all (msgStep b) && decide ((b.msgs.length : Int) ≤ 6)
theorem boxB_parts (b : BoxD) : boxB b = (nameB b.name && num9 b.validity && num9 b.next && msgsB b) := by
  unfold boxB msgsB
  cases nameB b.name <;> cases num9 b.validity <;> cases num9 b.next <;> cases (List.range b.msgs.length).all (msgStep b) <;> cases decide ((b.msgs.length : Int) ≤ 6) <;> rfl
theorem msgsB_no {b : BoxD} {k : Nat} (hk : k < b.msgs.length) (h : msgStep b k = false) : msgsB b = false := by unfold msgsB; rw [range_not hk h]; rfl
theorem msgsB_yes {b : BoxD} (h : (List.range b.msgs.length).all (msgStep b) = true) : msgsB b = decide ((b.msgs.length : Int) ≤ 6) := by unfold msgsB; rw [h]; rfl

end Go.Proofs.Ythjeeggejkpjgaa
