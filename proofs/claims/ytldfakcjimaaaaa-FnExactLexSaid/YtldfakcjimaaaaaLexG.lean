/-
  The laws FnLex and FnLexBack, out of what the program's LineOf and Lex answer.
-/
import Derived.Test.YtldfakcjimaaaaaLexF
import Derived.Test.YtldfakcjimaaaaaMx
namespace Go.Proofs.Ytldfakcjimaaaaa
open Go.RowKit

def ImplLex : Prop := ∀ (s : ByteArray) (W : World), Mx W → s.size ≤ 1048576 → Calls Try.prog 6 #[.string s] W fun e w' => LexPost (lexL s.data.toList) W e w'


theorem lexL_nil : lexL [] = some [] := rfl
theorem lineL_cases (l : List Tok) : lineL l = [] ∨ ¬ lineL l = [] ∧ lexL (lineL l) = some l := by
  by_cases h : lineL l = []
  · exact .inl h
  · refine .inr ⟨h, lexL_lineL l ?_⟩
    unfold lineL at h
    cases hok : okLine l with
    | true => rfl
    | false => rw [hok] at h; exact absurd rfl h

theorem LexPost.ok {ts : List Tok} {w w' : World} {e : Ending} (h : LexPost (some ts) w e w') : ∃ v, e = .returned (.tuple #[v, .bool true]) ∧ w'.ownsRow w.heap.size 30 2 v ts.length (ts.flatMap tokc) ∧ Below w.heap.size w w' := h
theorem LexPost.no {w w' : World} {e : Ending} (h : LexPost none w e w') : ∃ v, e = .returned (.tuple #[v, .bool false]) ∧ w'.ownsRow w.heap.size 30 2 v 0 ([] : List Value) ∧ Below w.heap.size w w' := h

end Go.Proofs.Ytldfakcjimaaaaa
