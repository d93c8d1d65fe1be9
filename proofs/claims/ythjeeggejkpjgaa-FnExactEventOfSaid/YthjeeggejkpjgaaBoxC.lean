/-
  Chapter 9, the model: BoxOk, SameBox, SameBoxes, BoxesOk (made by tools/gen_boxc.py).
-/
import Derived.Test.YthjeeggejkpjgaaLawBoxOk
import Derived.Test.YthjeeggejkpjgaaLawBoxesOk
import Derived.Test.YthjeeggejkpjgaaLawSameBox
import Derived.Test.YthjeeggejkpjgaaLawSameBoxes
import Derived.Test.YthjeeggejkpjgaaBoxB
import Derived.Test.YthjeeggejkpjgaaGc
import Derived.Test.YthjeeggejkpjgaaFilF
import Derived.Test.YthjeeggejkpjgaaSto
import Derived.Test.YthjeeggejkpjgaaRow
namespace Go.Proofs.Ythjeeggejkpjgaa
open Go.RowKit

theorem msg_zero {b : BoxD} {m : MsgD} (h : b.msgs[0]? = some m) : msgStep b 0 = ((decide (1 ≤ m.uid) && decide (m.uid ≤ b.next - 1)) && flB m.flags && decide ((m.text.length : Int) ≤ 40)) := by
  unfold msgStep
  rw [h]
  simp only [Bool.and_true]
theorem msg_succ {b : BoxD} {j : Nat} {q m : MsgD} (hq : b.msgs[j]? = some q) (h : b.msgs[j + 1]? = some m) : msgStep b (j + 1) = ((decide (1 ≤ m.uid) && decide (m.uid ≤ b.next - 1)) && decide (q.uid < m.uid) && flB m.flags && decide ((m.text.length : Int) ≤ 40)) := by
  unfold msgStep
  rw [h]
  simp only [hq]
theorem box_no1 {b : BoxD} (h : nameB b.name = false) : boxB b = false := by unfold boxB; rw [h]; rfl
theorem box_no2 {b : BoxD} (h : num9 b.validity = false) : boxB b = false := by unfold boxB; rw [h]; simp
theorem box_no3 {b : BoxD} (h : num9 b.next = false) : boxB b = false := by unfold boxB; rw [h]; simp
theorem box_no4 {b : BoxD} (h : ¬ ((b.msgs.length : Int) ≤ 6)) : boxB b = false := by unfold boxB; rw [decide_eq_false h]; simp
theorem box_no5 {b : BoxD} {k : Nat} (hk : k < b.msgs.length) (h : msgStep b k = false) : boxB b = false := by unfold boxB; rw [range_not hk h]; simp
theorem box_yes {b : BoxD} (h1 : nameB b.name = true) (h2 : num9 b.validity = true) (h3 : num9 b.next = true) (h4 : (b.msgs.length : Int) ≤ 6) (h5 : (List.range b.msgs.length).all (msgStep b) = true) : boxB b = true := by unfold boxB; rw [h1, h2, h3, h5, decide_eq_true h4]; rfl

theorem l9Number_any (n : Int) (w : World) :
    Calls Try.prog 12 #[.int .i64 n] w fun e w' => e = .returned (.bool (num9 n)) ∧ w = w' := by
  have C1 := Lib.hid (fun W => l1In_any n 1 999999999 W)
  go_enter Try.func12, Try.ntmps12
  go_wp2_with fail
  refine (C1.out _).mono ?_
  rintro e w' ⟨rfl, rfl⟩
  go_wp2
  go_ret
  exact ⟨rfl, rfl⟩

theorem bx_zero {l : List BoxD} {x : BoxD} (h : l[0]? = some x) : boxStep l 0 = (boxB x && decide (bxWith (l.take 0) x.validity < 0)) := by
  unfold boxStep
  rw [h]
  simp only [Bool.and_true]
theorem bx_succ {l : List BoxD} {j : Nat} {q x : BoxD} (hq : l[j]? = some q) (h : l[j + 1]? = some x) : boxStep l (j + 1) = (boxB x && Op.bytesLess q.name x.name && decide (bxWith (l.take (j + 1)) x.validity < 0)) := by
  unfold boxStep
  rw [h]
  simp only [hq]
theorem boxes_not {l : List BoxD} {k : Nat} (hk : k < l.length) (h : boxStep l k = false) : boxesB l = false := by unfold boxesB; rw [range_not hk h]; rfl
theorem boxes_yes {l : List BoxD} (h : (List.range l.length).all (boxStep l) = true) : boxesB l = decide ((l.length : Int) ≤ 4) := by unfold boxesB; rw [h]; rfl
theorem bxWith_rng (l : List BoxD) (v : Int) : ∀ n : Nat, -1 ≤ firstAt (fun b : BoxD => b.validity == v) l n ∧ firstAt (fun b : BoxD => b.validity == v) l n < n + l.length + 1 := by
  induction l with
  | nil => intro n; simp only [firstAt]; omega
  | cons a r ih =>
    intro n
    simp only [firstAt]
    have := ih (n + 1)
    rw [List.length_cons]
    split <;> omega

end Go.Proofs.Ythjeeggejkpjgaa
