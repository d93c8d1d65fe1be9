/-
  Arguments of the type Commit, opened (made by tools/typegen.py).
-/
import Derived.Test.YthjeeggejkpjgaaLgO
import Derived.Test.YthjeeggejkpjgaaTyCommit
namespace Go.Proofs.Ythjeeggejkpjgaa
open Go.ChangeShapes Go.WideShapes Go.ChangeAt Go.RowKit Go.Deep Go.Joins

def commitSh : List Sh := [.int, .int, .int, .int, .str, .str]
theorem ComD.is {xs : List Lf} (h : LsIs commitSh xs) : ∃ x : ComD, LsSame xs x.lf ∧ LsBnd x.lf := by
  obtain ⟨a0, s0, rfl, ⟨n0, rfl, b0⟩, a1, s1, rfl, ⟨n1, rfl, b1⟩, a2, s2, rfl, ⟨n2, rfl, b2⟩, a3, s3, rfl, ⟨n3, rfl, b3⟩, a4, s4, rfl, ⟨n4, rfl, b4⟩, a5, s5, rfl, ⟨n5, rfl, b5⟩, rfl⟩ := h
  exact ⟨⟨n0, n1, n2, n3, n4, n5⟩, ⟨rfl, rfl, rfl, rfl, rfl, rfl, trivial⟩, ⟨b0, b1, b2, b3, b4, b5, trivial⟩⟩
theorem ComD.row_is {y : Lf} (h : LfIs (.rows 23 6 commitSh) y) : ∃ l : List ComD, LfSame y (commitsLf l) ∧ LfBnd (commitsLf l) := rows_is (fun _ h => ComD.is h) h

set_option maxRecDepth 100000 in
theorem sh_Commit : shOf Try.prog 10 23 = some commitSh := by kernel_rfl

set_option maxRecDepth 100000 in
theorem open_Commit {H : Type} {enc : TypeId × Value → H} {W : World} {v : Value} {d : DataW H} {ps : List MemPlace} {r : Reach} {b0 : Nat} (hv : Value.okWide Try.prog W r b0 23 v) (h : DataW.Trod enc Try.prog W 0 (fun _ => true) true 23 v d ps) :
    ∃ (x : ComD), v = .agg #[.int .i64 x.kind, .int .i64 x.validity, .int .i64 x.uid, .int .i64 x.flags, sv x.name, sv x.text] ∧ LsBnd x.lf := by
  obtain ⟨cs, ls, rfl, h1, h2⟩ := open_rec sh_Commit Try.underlying23 hv h
  obtain ⟨x, h3, h4⟩ := ComD.is h2
  have h5 := LsRd.same h3 h1
  have hc := ComD.rd.1 h5
  exact ⟨x, by rw [← hc], h4⟩

end Go.Proofs.Ythjeeggejkpjgaa
