/-
  Chapter 3's draws of lines, and sameTokens.
-/
import Derived.Test.YtldfakcjimaaaaaLexE
namespace Go.Proofs.Ytldfakcjimaaaaa
open Go.RowKit

def LineDrawn (w : World) (e : Ending) (w' : World) : Prop := ∃ (v : Value) (n : Nat) (l : List Tok), e = .returned v ∧ n = l.length ∧ n ≤ 7 ∧ (∀ t ∈ l, t.text.length ≤ 50) ∧ w'.ownsRow w.heap.size 30 2 v n (l.flatMap tokc) ∧ Below w.heap.size w w'

theorem line_le (l : List Tok) (n : Nat) (h : l.length ≤ n) : (lineL l).length ≤ 101 * n := by
  have key : ∀ (l : List Tok) (p : Option Tok), (lineFrom p l).length ≤ 101 * l.length := by
    intro l
    induction l with
    | nil => intro p; simp [lineFrom]
    | cons t r ih =>
      intro p
      have h1 := sepL_le p t
      have h2 := tokText_le t
      have h3 := ih (some t)
      simp only [lineFrom, List.length_append, List.length_cons]
      omega
  unfold lineL
  split
  · have := key l none; omega
  · simp

end Go.Proofs.Ytldfakcjimaaaaa
