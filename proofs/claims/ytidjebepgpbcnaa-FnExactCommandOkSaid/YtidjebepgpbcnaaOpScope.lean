/-
  Arguments of the type Scope, opened (made by tools/typegen.py).
-/
import Derived.Test.YtidjebepgpbcnaaLgO
import Derived.Test.YtidjebepgpbcnaaTyScope
namespace Go.Proofs.Ytidjebepgpbcnaa
open Go.ChangeShapes Go.WideShapes Go.ChangeAt Go.RowKit Go.Deep Go.Joins

def scopeSh : List Sh := [.int, .rows 9 1 [.str], .int]
theorem Scp.is {xs : List Lf} (h : LsIs scopeSh xs) : ∃ x : Scp, LsSame xs x.lf ∧ LsBnd x.lf := by
  obtain ⟨a0, s0, rfl, ⟨n0, rfl, b0⟩, a1, s1, rfl, h1, a2, s2, rfl, ⟨n2, rfl, b2⟩, rfl⟩ := h
  obtain ⟨n1, e1, b1⟩ := strs_row_is h1
  exact ⟨⟨n0, n1, n2⟩, ⟨rfl, e1, rfl, trivial⟩, ⟨b0, b1, b2, trivial⟩⟩
theorem Scp.row_is {y : Lf} (h : LfIs (.rows 74 3 scopeSh) y) : ∃ l : List Scp, LfSame y (scpsLf l) ∧ LfBnd (scpsLf l) := rows_is (fun _ h => Scp.is h) h

set_option maxRecDepth 100000 in
theorem sh_Scope : shOf Try.prog 10 74 = some scopeSh := by kernel_rfl

set_option maxRecDepth 100000 in
theorem open_Scope {H : Type} {enc : TypeId × Value → H} {W : World} {v : Value} {d : DataW H} {ps : List MemPlace} {r : Reach} {b0 : Nat} (hv : Value.okWide Try.prog W r b0 74 v) (h : DataW.Trod enc Try.prog W 0 (fun _ => true) true 74 v d ps) :
    ∃ (x : Scp) (r1 : Value), v = .agg #[.int .i64 x.kind, r1, .int .i64 x.events] ∧ LfRd W (strsLf x.names) r1 ∧ LsBnd x.lf := by
  obtain ⟨cs, ls, rfl, h1, h2⟩ := open_rec sh_Scope Try.underlying74 hv h
  obtain ⟨x, h3, h4⟩ := Scp.is h2
  have h5 := LsRd.same h3 h1
  obtain ⟨r1, hc, k1⟩ := Scp.rd.1 h5
  exact ⟨x, r1, by rw [← hc], k1, h4⟩

set_option maxRecDepth 100000 in
theorem sh_ScopeS : shOf Try.prog 11 24 = some [.rows 74 3 scopeSh] := by kernel_rfl

set_option maxRecDepth 100000 in
theorem open_ScopeS {H : Type} {enc : TypeId × Value → H} {W : World} {v : Value} {d : DataW H} {ps : List MemPlace} {r : Reach} {b0 : Nat} (hv : Value.okWide Try.prog W r b0 24 v) (h : DataW.Trod enc Try.prog W 0 (fun _ => true) true 24 v d ps) :
    ∃ l : List Scp, LfRd W (scpsLf l) v ∧ LfBnd (scpsLf l) := by
  obtain ⟨y, h1, h2⟩ := open_row sh_ScopeS Try.underlying24 hv h
  obtain ⟨l, h3, h4⟩ := Scp.row_is h2
  exact ⟨l, LfRd.same h3 h1, h4⟩

end Go.Proofs.Ytidjebepgpbcnaa
