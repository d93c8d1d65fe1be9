/-
  Arguments of the type Span, opened (made by tools/typegen.py).
-/
import Derived.Test.YtidjebepgpbcnaaLgO
import Derived.Test.YtidjebepgpbcnaaTySpan
namespace Go.Proofs.Ytidjebepgpbcnaa
open Go.ChangeShapes Go.WideShapes Go.ChangeAt Go.RowKit Go.Deep Go.Joins

def spanSh : List Sh := [.int, .int]
theorem Spn.is {xs : List Lf} (h : LsIs spanSh xs) : ∃ x : Spn, LsSame xs x.lf ∧ LsBnd x.lf := by
  obtain ⟨a0, s0, rfl, ⟨n0, rfl, b0⟩, a1, s1, rfl, ⟨n1, rfl, b1⟩, rfl⟩ := h
  exact ⟨⟨n0, n1⟩, ⟨rfl, rfl, trivial⟩, ⟨b0, b1, trivial⟩⟩
theorem Spn.row_is {y : Lf} (h : LfIs (.rows 66 2 spanSh) y) : ∃ l : List Spn, LfSame y (spnsLf l) ∧ LfBnd (spnsLf l) := rows_is (fun _ h => Spn.is h) h

set_option maxRecDepth 100000 in
theorem sh_Span : shOf Try.prog 10 66 = some spanSh := by kernel_rfl

set_option maxRecDepth 100000 in
theorem open_Span {H : Type} {enc : TypeId × Value → H} {W : World} {v : Value} {d : DataW H} {ps : List MemPlace} {r : Reach} {b0 : Nat} (hv : Value.okWide Try.prog W r b0 66 v) (h : DataW.Trod enc Try.prog W 0 (fun _ => true) true 66 v d ps) :
    ∃ (x : Spn), v = .agg #[.int .i64 x.low, .int .i64 x.high] ∧ LsBnd x.lf := by
  obtain ⟨cs, ls, rfl, h1, h2⟩ := open_rec sh_Span Try.underlying66 hv h
  obtain ⟨x, h3, h4⟩ := Spn.is h2
  have h5 := LsRd.same h3 h1
  have hc := Spn.rd.1 h5
  exact ⟨x, by rw [← hc], h4⟩

set_option maxRecDepth 100000 in
theorem sh_SpanS : shOf Try.prog 11 23 = some [.rows 66 2 spanSh] := by kernel_rfl

set_option maxRecDepth 100000 in
theorem open_SpanS {H : Type} {enc : TypeId × Value → H} {W : World} {v : Value} {d : DataW H} {ps : List MemPlace} {r : Reach} {b0 : Nat} (hv : Value.okWide Try.prog W r b0 23 v) (h : DataW.Trod enc Try.prog W 0 (fun _ => true) true 23 v d ps) :
    ∃ l : List Spn, LfRd W (spnsLf l) v ∧ LfBnd (spnsLf l) := by
  obtain ⟨y, h1, h2⟩ := open_row sh_SpanS Try.underlying23 hv h
  obtain ⟨l, h3, h4⟩ := Spn.row_is h2
  exact ⟨l, LfRd.same h3 h1, h4⟩

end Go.Proofs.Ytidjebepgpbcnaa
