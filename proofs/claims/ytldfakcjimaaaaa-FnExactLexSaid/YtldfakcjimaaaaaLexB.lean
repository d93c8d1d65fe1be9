/-
  Chapter 3's walks: LineOf, by the model.
-/
import Derived.Test.YtldfakcjimaaaaaLexA
import Derived.Test.YtldfakcjimaaaaaAppS
import Derived.IntWalk
namespace Go.Proofs.Ytldfakcjimaaaaa
open Go.RowKit

def tokc (t : Tok) : List Value := [.int .i64 t.kind, sv t.text]
def sepL : Option Tok → Tok → List UInt8
  | none, _ => []
  | some a, t => if gapB a t = true then [32] else []
def lineFrom : Option Tok → List Tok → List UInt8
  | _, [] => []
  | p, t :: r => sepL p t ++ tokText t ++ lineFrom (some t) r
def okLine (l : List Tok) : Bool := l.all fun t => !(tokText t).isEmpty
def lineL (l : List Tok) : List UInt8 := if okLine l = true then lineFrom none l else []
def lastOr (p : Option Tok) : List Tok → Option Tok
  | [] => p
  | t :: r => lastOr (some t) r
theorem lineFrom_snoc : ∀ (l : List Tok) (p : Option Tok) (t : Tok), lineFrom p (l ++ [t]) = lineFrom p l ++ (sepL (lastOr p l) t ++ tokText t)
  | [], p, t => by simp [lineFrom, lastOr]
  | x :: l, p, t => by simp [lineFrom, lastOr, lineFrom_snoc l (some x) t]
theorem lastOr_snoc : ∀ (l : List Tok) (p : Option Tok) (t : Tok), lastOr p (l ++ [t]) = some t
  | [], _, _ => rfl
  | x :: l, _, t => lastOr_snoc l (some x) t
theorem tokText_le (t : Tok) : (tokText t).length ≤ 100 := by
  unfold tokText
  split
  · split
    · rename_i h; unfold atomB at h; simp only [Bool.and_eq_true, decide_eq_true_eq] at h; omega
    · simp
  split
  · split
    · exact litL_le _
    · have := quoteL_le t.text; omega
  split
  · split <;> simp
  split
  · split <;> simp
  · simp
theorem sepL_yes {a t : Tok} (h : gapB a t = true) : sepL (some a) t = [32] := by show (if gapB a t = true then _ else _) = _; rw [if_pos h]
theorem sepL_no {a t : Tok} (h : gapB a t = false) : sepL (some a) t = [] := by show (if gapB a t = true then _ else _) = _; rw [h]; rfl
theorem sepL_le (p : Option Tok) (t : Tok) : (sepL p t).length ≤ 1 := by
  unfold sepL; split
  · simp
  · split <;> simp
theorem take_tok {l : List Tok} {k : Nat} {t : Tok} (h : l[k]? = some t) : l.take (k + 1) = l.take k ++ [t] := by
  obtain ⟨h1, h2⟩ := List.getElem?_eq_some_iff.1 h
  rw [List.take_succ_eq_append_getElem h1, h2]
theorem line_bad {l : List Tok} {k : Nat} {t : Tok} (h : l[k]? = some t) (he : tokText t = []) : lineL l = [] := by
  unfold lineL okLine
  rw [if_neg]
  intro hc
  rw [List.all_eq_true] at hc
  have := hc t (List.mem_of_getElem? h)
  rw [he] at this
  cases this

/-- The loop's knowledge: acc is the line of the first k, none of them is empty. -/
def LnSt (l : List Tok) (k : Nat) (acc : List UInt8) : Prop := acc = lineFrom none (l.take k) ∧ okLine (l.take k) = true ∧ acc.length ≤ 101 * k
theorem LnSt.step {l : List Tok} {k : Nat} {acc : List UInt8} {t : Tok} (h : LnSt l k acc) (ht : l[k]? = some t) (he : ¬ tokText t = []) (hp : lastOr none (l.take k) = (if k = 0 then none else l[k - 1]?)) :
    LnSt l (k + 1) (acc ++ sepL (if k = 0 then none else l[k - 1]?) t ++ tokText t) := by
  obtain ⟨h1, h2, h3⟩ := h
  refine ⟨?_, ?_, ?_⟩
  · rw [take_tok ht, lineFrom_snoc, hp, h1, List.append_assoc]
  · rw [take_tok ht]
    unfold okLine at *
    rw [List.all_append, h2]
    cases hh : tokText t with
    | nil => exact absurd hh he
    | cons a r => simp [hh]
  · have := tokText_le t
    have := sepL_le (if k = 0 then none else l[k - 1]?) t
    simp only [List.length_append]; omega
theorem last_take (l : List Tok) (k : Nat) (hk : k ≤ l.length) : lastOr none (l.take k) = (if k = 0 then none else l[k - 1]?) := by
  cases k with
  | zero => simp [lastOr]
  | succ j =>
    have hj : l[j]? = some (l[j]'(by omega)) := List.getElem?_eq_getElem (by omega)
    rw [take_tok hj, lastOr_snoc, if_neg (by omega), Nat.add_sub_cancel, hj]

end Go.Proofs.Ytldfakcjimaaaaa
