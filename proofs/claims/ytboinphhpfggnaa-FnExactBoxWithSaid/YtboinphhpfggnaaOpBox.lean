/-
  Arguments of the type Box, opened (made by tools/typegen.py).
-/
import Derived.Test.YtboinphhpfggnaaLgO
import Derived.Test.YtboinphhpfggnaaTyBox
import Derived.Test.YtboinphhpfggnaaOpMsg
namespace Go.Proofs.Ytboinphhpfggnaa
open Go.ChangeShapes Go.WideShapes Go.ChangeAt Go.RowKit Go.Deep Go.Joins

def boxSh : List Sh := [.str, .int, .int, .rows 89 3 msgSh]
theorem BoxD.is {xs : List Lf} (h : LsIs boxSh xs) : ∃ x : BoxD, LsSame xs x.lf ∧ LsBnd x.lf := by
  obtain ⟨a0, s0, rfl, ⟨n0, rfl, b0⟩, a1, s1, rfl, ⟨n1, rfl, b1⟩, a2, s2, rfl, ⟨n2, rfl, b2⟩, a3, s3, rfl, h3, rfl⟩ := h
  obtain ⟨n3, e3, b3⟩ := MsgD.row_is h3
  exact ⟨⟨n0, n1, n2, n3⟩, ⟨rfl, rfl, rfl, e3, trivial⟩, ⟨b0, b1, b2, b3, trivial⟩⟩
theorem BoxD.row_is {y : Lf} (h : LfIs (.rows 39 4 boxSh) y) : ∃ l : List BoxD, LfSame y (boxsLf l) ∧ LfBnd (boxsLf l) := rows_is (fun _ h => BoxD.is h) h

set_option maxRecDepth 100000 in
theorem sh_Box : shOf Try.prog 10 39 = some boxSh := by kernel_rfl

set_option maxRecDepth 100000 in
theorem open_Box {H : Type} {enc : TypeId × Value → H} {W : World} {v : Value} {d : DataW H} {ps : List MemPlace} {r : Reach} {b0 : Nat} (hv : Value.okWide Try.prog W r b0 39 v) (h : DataW.Trod enc Try.prog W 0 (fun _ => true) true 39 v d ps) :
    ∃ (x : BoxD) (r3 : Value), v = .agg #[sv x.name, .int .i64 x.validity, .int .i64 x.next, r3] ∧ LfRd W (msgsLf x.msgs) r3 ∧ LsBnd x.lf := by
  obtain ⟨cs, ls, rfl, h1, h2⟩ := open_rec sh_Box Try.underlying39 hv h
  obtain ⟨x, h3, h4⟩ := BoxD.is h2
  have h5 := LsRd.same h3 h1
  obtain ⟨r3, hc, k3⟩ := BoxD.rd.1 h5
  exact ⟨x, r3, by rw [← hc], k3, h4⟩

set_option maxRecDepth 100000 in
theorem sh_BoxS : shOf Try.prog 11 47 = some [.rows 39 4 boxSh] := by kernel_rfl

set_option maxRecDepth 100000 in
theorem open_BoxS {H : Type} {enc : TypeId × Value → H} {W : World} {v : Value} {d : DataW H} {ps : List MemPlace} {r : Reach} {b0 : Nat} (hv : Value.okWide Try.prog W r b0 47 v) (h : DataW.Trod enc Try.prog W 0 (fun _ => true) true 47 v d ps) :
    ∃ l : List BoxD, LfRd W (boxsLf l) v ∧ LfBnd (boxsLf l) := by
  obtain ⟨y, h1, h2⟩ := open_row sh_BoxS Try.underlying47 hv h
  obtain ⟨l, h3, h4⟩ := BoxD.row_is h2
  exact ⟨l, LfRd.same h3 h1, h4⟩

end Go.Proofs.Ytboinphhpfggnaa
