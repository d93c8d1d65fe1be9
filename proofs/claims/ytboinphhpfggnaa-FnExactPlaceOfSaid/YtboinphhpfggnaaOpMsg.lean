/-
  Arguments of the type Msg, opened (made by tools/typegen.py).
-/
import Derived.Test.YtboinphhpfggnaaLgO
import Derived.Test.YtboinphhpfggnaaTyMsg
namespace Go.Proofs.Ytboinphhpfggnaa
open Go.ChangeShapes Go.WideShapes Go.ChangeAt Go.RowKit Go.Deep Go.Joins

def msgSh : List Sh := [.int, .int, .str]
theorem MsgD.is {xs : List Lf} (h : LsIs msgSh xs) : ∃ x : MsgD, LsSame xs x.lf ∧ LsBnd x.lf := by
  obtain ⟨a0, s0, rfl, ⟨n0, rfl, b0⟩, a1, s1, rfl, ⟨n1, rfl, b1⟩, a2, s2, rfl, ⟨n2, rfl, b2⟩, rfl⟩ := h
  exact ⟨⟨n0, n1, n2⟩, ⟨rfl, rfl, rfl, trivial⟩, ⟨b0, b1, b2, trivial⟩⟩
theorem MsgD.row_is {y : Lf} (h : LfIs (.rows 89 3 msgSh) y) : ∃ l : List MsgD, LfSame y (msgsLf l) ∧ LfBnd (msgsLf l) := rows_is (fun _ h => MsgD.is h) h

set_option maxRecDepth 100000 in
theorem sh_Msg : shOf Try.prog 10 89 = some msgSh := by kernel_rfl

set_option maxRecDepth 100000 in
theorem open_Msg {H : Type} {enc : TypeId × Value → H} {W : World} {v : Value} {d : DataW H} {ps : List MemPlace} {r : Reach} {b0 : Nat} (hv : Value.okWide Try.prog W r b0 89 v) (h : DataW.Trod enc Try.prog W 0 (fun _ => true) true 89 v d ps) :
    ∃ (x : MsgD), v = .agg #[.int .i64 x.uid, .int .i64 x.flags, sv x.text] ∧ LsBnd x.lf := by
  obtain ⟨cs, ls, rfl, h1, h2⟩ := open_rec sh_Msg Try.underlying89 hv h
  obtain ⟨x, h3, h4⟩ := MsgD.is h2
  have h5 := LsRd.same h3 h1
  have hc := MsgD.rd.1 h5
  exact ⟨x, by rw [← hc], h4⟩

set_option maxRecDepth 100000 in
theorem sh_MsgS : shOf Try.prog 11 37 = some [.rows 89 3 msgSh] := by kernel_rfl

set_option maxRecDepth 100000 in
theorem open_MsgS {H : Type} {enc : TypeId × Value → H} {W : World} {v : Value} {d : DataW H} {ps : List MemPlace} {r : Reach} {b0 : Nat} (hv : Value.okWide Try.prog W r b0 37 v) (h : DataW.Trod enc Try.prog W 0 (fun _ => true) true 37 v d ps) :
    ∃ l : List MsgD, LfRd W (msgsLf l) v ∧ LfBnd (msgsLf l) := by
  obtain ⟨y, h1, h2⟩ := open_row sh_MsgS Try.underlying37 hv h
  obtain ⟨l, h3, h4⟩ := MsgD.row_is h2
  exact ⟨l, LfRd.same h3 h1, h4⟩

end Go.Proofs.Ytboinphhpfggnaa
