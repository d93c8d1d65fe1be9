/-
  Arguments of the type Command, opened (made by tools/typegen.py).
-/
import Derived.Test.YtidjebepgpbcnaaLgO
import Derived.Test.YtidjebepgpbcnaaTyCommand
import Derived.Test.YtidjebepgpbcnaaOpSpan
import Derived.Test.YtidjebepgpbcnaaOpFilter
namespace Go.Proofs.Ytidjebepgpbcnaa
open Go.ChangeShapes Go.WideShapes Go.ChangeAt Go.RowKit Go.Deep Go.Joins

def commandSh : List Sh := [.str, .int, .str, .str, .bool, .rows 66 2 spanSh, .int, .int, .str, .bool, .rows 74 3 scopeSh]
theorem CmdD.is {xs : List Lf} (h : LsIs commandSh xs) : ∃ x : CmdD, LsSame xs x.lf ∧ LsBnd x.lf := by
  obtain ⟨a0, s0, rfl, ⟨n0, rfl, b0⟩, a1, s1, rfl, ⟨n1, rfl, b1⟩, a2, s2, rfl, ⟨n2, rfl, b2⟩, a3, s3, rfl, ⟨n3, rfl, b3⟩, a4, s4, rfl, ⟨n4, rfl⟩, a5, s5, rfl, h5, a6, s6, rfl, ⟨n6, rfl, b6⟩, a7, s7, rfl, ⟨n7, rfl, b7⟩, a8, s8, rfl, ⟨n8, rfl, b8⟩, a9, s9, rfl, ⟨n9, rfl⟩, a10, s10, rfl, h10, rfl⟩ := h
  obtain ⟨n5, e5, b5⟩ := Spn.row_is h5
  obtain ⟨n10, e10, b10⟩ := Scp.row_is h10
  exact ⟨⟨n0, n1, n2, n3, n4, n5, n6, n7, n8, ⟨n9, n10⟩⟩, ⟨rfl, rfl, rfl, rfl, rfl, e5, rfl, rfl, rfl, rfl, e10, trivial⟩, ⟨b0, b1, b2, b3, trivial, b5, b6, b7, b8, trivial, b10, trivial⟩⟩
theorem CmdD.row_is {y : Lf} (h : LfIs (.rows 28 11 commandSh) y) : ∃ l : List CmdD, LfSame y (commandsLf l) ∧ LfBnd (commandsLf l) := rows_is (fun _ h => CmdD.is h) h

set_option maxRecDepth 100000 in
theorem sh_Command : shOf Try.prog 10 28 = some commandSh := by kernel_rfl

set_option maxRecDepth 100000 in
theorem open_Command {H : Type} {enc : TypeId × Value → H} {W : World} {v : Value} {d : DataW H} {ps : List MemPlace} {r : Reach} {b0 : Nat} (hv : Value.okWide Try.prog W r b0 28 v) (h : DataW.Trod enc Try.prog W 0 (fun _ => true) true 28 v d ps) :
    ∃ (x : CmdD) (r5 r10 : Value), v = .agg #[sv x.tag, .int .i64 x.kind, sv x.box, sv x.to, .bool x.uid, r5, .int .i64 x.op, .int .i64 x.flags, sv x.text, .bool x.filter.on, r10] ∧ LfRd W (spnsLf x.sset) r5 ∧ LfRd W (scpsLf x.filter.scopes) r10 ∧ LsBnd x.lf := by
  obtain ⟨cs, ls, rfl, h1, h2⟩ := open_rec sh_Command Try.underlying28 hv h
  obtain ⟨x, h3, h4⟩ := CmdD.is h2
  have h5 := LsRd.same h3 h1
  obtain ⟨r5, r10, hc, k5, k10⟩ := CmdD.rd.1 h5
  exact ⟨x, r5, r10, by rw [← hc], k5, k10, h4⟩

end Go.Proofs.Ytidjebepgpbcnaa
