/-
  Arguments of the type Filter, opened (made by tools/typegen.py).
-/
import Derived.Test.YtidjebepgpbcnaaLgO
import Derived.Test.YtidjebepgpbcnaaTyFilter
import Derived.Test.YtidjebepgpbcnaaOpScope
namespace Go.Proofs.Ytidjebepgpbcnaa
open Go.ChangeShapes Go.WideShapes Go.ChangeAt Go.RowKit Go.Deep Go.Joins

def filterSh : List Sh := [.bool, .rows 74 3 scopeSh]
theorem Flt.is {xs : List Lf} (h : LsIs filterSh xs) : ∃ x : Flt, LsSame xs x.lf ∧ LsBnd x.lf := by
  obtain ⟨a0, s0, rfl, ⟨n0, rfl⟩, a1, s1, rfl, h1, rfl⟩ := h
  obtain ⟨n1, e1, b1⟩ := Scp.row_is h1
  exact ⟨⟨n0, n1⟩, ⟨rfl, e1, trivial⟩, ⟨trivial, b1, trivial⟩⟩
theorem Flt.row_is {y : Lf} (h : LfIs (.rows 26 2 filterSh) y) : ∃ l : List Flt, LfSame y (filtersLf l) ∧ LfBnd (filtersLf l) := rows_is (fun _ h => Flt.is h) h

set_option maxRecDepth 100000 in
theorem sh_Filter : shOf Try.prog 10 26 = some filterSh := by kernel_rfl

set_option maxRecDepth 100000 in
theorem open_Filter {H : Type} {enc : TypeId × Value → H} {W : World} {v : Value} {d : DataW H} {ps : List MemPlace} {r : Reach} {b0 : Nat} (hv : Value.okWide Try.prog W r b0 26 v) (h : DataW.Trod enc Try.prog W 0 (fun _ => true) true 26 v d ps) :
    ∃ (x : Flt) (r1 : Value), v = .agg #[.bool x.on, r1] ∧ LfRd W (scpsLf x.scopes) r1 ∧ LsBnd x.lf := by
  obtain ⟨cs, ls, rfl, h1, h2⟩ := open_rec sh_Filter Try.underlying26 hv h
  obtain ⟨x, h3, h4⟩ := Flt.is h2
  have h5 := LsRd.same h3 h1
  obtain ⟨r1, hc, k1⟩ := Flt.rd.1 h5
  exact ⟨x, r1, by rw [← hc], k1, h4⟩

end Go.Proofs.Ytidjebepgpbcnaa
