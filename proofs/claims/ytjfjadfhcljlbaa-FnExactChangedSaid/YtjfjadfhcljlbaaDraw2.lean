/-
  What is drawn: the cursor's making, bytes, turned texts.
-/
import Derived.Test.YtjfjadfhcljlbaaDraw
namespace Go.Proofs.Ytjfjadfhcljlbaa
open Go.RowKit

theorem grown_young {w w1 w2 : World} {row row' : Option Nat} (h : w.grownBy w1 row) (hg : w1.grownBy w2 row') (hr : ∀ k, row' = some k → w.heap.size ≤ k) : w.grownBy w2 row :=
  ⟨hg.os.trans h.os, hg.tape.trans h.tape, hg.output.trans h.output, Nat.le_trans h.size hg.size, fun k hk hne => (hg.block k (Nat.lt_of_lt_of_le hk h.size) (fun e => by have := hr k e.symm; omega)).trans (h.block k hk hne)⟩
theorem grown_of_below {w w1 : World} {row : Option Nat} (h : Below w.heap.size w w1) : w.grownBy w1 row := ⟨h.os, h.tape, h.output, h.size, fun k hk _ => h.block k hk⟩
/-- A cursor that was made since: its changes are none of the old memory. -/
theorem below_cur {W w w1 : World} {g B : Nat} (h : Below B W w) (hg : w.grownBy w1 (some g)) (hB : B ≤ w.heap.size) (hgB : B ≤ g) : Below B W w1 := h.grown hg hB (fun k hk => by injection hk with hk; omega)

theorem and_big (x : Int) : 0 ≤ bits .and .i64 x 1073741823 ∧ bits .and .i64 x 1073741823 ≤ 2000000000 := by
  obtain ⟨h1, h2⟩ := and_i64_nat x 1073741823 (by omega)
  exact ⟨h1, Int.le_trans h2 (by omega)⟩

def BytesPost (g : Nat) (code : List UInt8) (n : Nat) (w : World) (e : Ending) (w' : World) : Prop := ∃ (v : Value) (l : List UInt8), e = .returned v ∧ l.length = n ∧ w'.ownsRow w.heap.size 5 1 v n (l.map bv) ∧ Cur w' g code ∧ w.grownBy w' (some g)


/-- A slice of strings that was just written out. -/
theorem Rd1_lit {α : Type} {enc : α → Value} {W : World} {b n c : Nat} {cs : Array Value} {e : TypeId} (l : List α) (h : W.heap[b]? = some (.cells cs e (0, 0))) (hcs : cs.toList = l.map enc) (hn : l.length = n) : Rd1 enc W (.slice (some ⟨b, 0, none⟩) n c) l := by
  subst hn
  refine ⟨_, c, rfl, .inr ⟨b, 0, rfl, (Array.getElem?_eq_some_iff.1 h).1, fun i x hx => ?_⟩⟩
  rw [Nat.zero_add, cell_of_row W b i cs e (0, 0) h, ← Array.getElem?_toList, hcs, List.getElem?_map, hx]
  rfl
theorem Apart_new {b n c g : Nat} (h : g < b) : Apart (.slice (some ⟨b, 0, none⟩) n c) g := by
  intro b' off c' n' e
  injection e with e
  injection e with e
  injection e with e
  omega


/-- A text was drawn, of at most so many bytes. -/
def TextPost (n : Nat) (w : World) (e : Ending) (w' : World) : Prop := ∃ t : List UInt8, e = .returned (sv t) ∧ t.length ≤ n ∧ Below w.heap.size w w'

end Go.Proofs.Ytjfjadfhcljlbaa
