/-
  A package-level table of strings: what a row's list says of it, and what stays of it below a call. No program is read here.
-/
import Derived.Test.YtidjebepgpbcnaaGa
import Derived.Lib.LaidTab
import Derived.OpenShut
import Derived.WalkSmall
import Derived.ChangeKeysEq
namespace Go.Proofs.Ytidjebepgpbcnaa
open Go.RowKit

/-- The table as a row lists it. -/
def strData {H : Type} (l : List (List UInt8)) : DataW H := .agg (l.map fun s => .lit (.string s))
/-- The variable holds just these strings. -/
def StrsIs (P : Program) (w : World) (name : String) (l : List (List UInt8)) : Prop := w.var? P name = some (l.map sv).toArray

theorem strs_of_data {H : Type} {enc : TypeId × Value → H} {P : Program} {w : World} {base : Nat} {sp : Nat → Bool} {held : Bool} {fuel : Nat} {t e : TypeId} {n : Nat} {cs : List Value} {l : List (List UInt8)} {p : List MemPlace}
    (ht : P.underlying t = some (.array n e)) (he : P.underlying e = some .string) (hce : P.cellsOf e = 1) (hct : P.cellsOf t = n)
    (h : DataW.trod enc P w base sp held fuel t cs = some (strData l, p)) : cs = l.map sv := by
  obtain ⟨xs, m, rfl, hx, hl, hn, hi⟩ := DataW.trod_array ht h
  have hxs : xs.map (·.1) = l.map fun s => (DataW.lit (.string s) : DataW H) := by
    have := congrArg Prod.fst hx
    simpa [strData] using this.symm
  have hll : l.length = n := by have := congrArg List.length hxs; simp at this; omega
  apply List.ext_getElem?
  intro i
  by_cases hlt : i < n
  · have h1 := hi i hlt
    obtain ⟨x, hx⟩ : ∃ x, xs[i]? = some x := ⟨_, List.getElem?_eq_getElem (by omega)⟩
    rw [hx] at h1
    obtain ⟨s, hc, rfl, _⟩ := DataW.trod_string he h1
    have h2 : cs[i]? = some (.string s) := by
      have := congrArg (·[0]?) hc
      simpa [hce, List.getElem?_take, List.getElem?_drop] using this
    have h3 : (xs.map (·.1))[i]? = some (DataW.lit (.string s.data.toList) : DataW H) := by simp [hx]
    rw [hxs] at h3
    simp only [List.getElem?_map, Option.map_eq_some_iff, DataW.lit.injEq, Lit.string.injEq] at h3
    obtain ⟨y, hy, rfl⟩ := h3
    rw [h2, List.getElem?_map, hy]
    simp [sv_data]
  · rw [List.getElem?_eq_none (by omega), List.getElem?_eq_none (by simp; omega)]

/-- From the row's list: the table stands first on it. -/
theorem strsIs_of_head {P : Program} {W : World} {name : String} {l : List (List UInt8)} {rest : List (String × DataW Unit)} {g : Nat} {t e : TypeId} {n : Nat}
    (hg : P.globalNamed name = some g) (hty : (P.globals[g]?).map (·.type) = some t) (ht : P.underlying t = some (.array n e)) (he : P.underlying e = some .string) (hce : P.cellsOf e = 1) (hct : P.cellsOf t = n)
    (h : laidMet P ((name, strData l) :: rest) W) : StrsIs P W name l := by
  obtain ⟨ps, ⟨g', t', cs, fuel, p, q, hg', ht', hvar, hd, _, _⟩, _⟩ := h
  obtain rfl := Option.some.inj (hg.symm.trans hg')
  obtain rfl := Option.some.inj (hty.symm.trans ht')
  unfold StrsIs
  rw [hvar, ← strs_of_data ht he hce hct hd]

theorem StrsIs.cell {P : Program} {W : World} {name : String} {l : List (List UInt8)} {g : Nat} (h : StrsIs P W name l) (hg : P.globalNamed name = some g) (i : Nat) (hi : i < l.length) :
    W.cell? ⟨g, i, none⟩ = some (sv (l.getD i [])) := by
  have := World.var?_cell hg h i
  simpa [List.getD, hi] using this

/-- a[i] of an array by value whose elements are strings. -/
theorem run_index_strs {P : Program} (w : World) {t e : TypeId} {n : Nat} {cs : Array Value} {k : IntKind} {i : Int} {v : Value} (h : P.underlying t = some (.array n e)) (he : P.underlying e = some .string) (h1 : P.cellsOf e = 1) (hs : (P.info? e).isSome = true)
    (h0 : 0 ≤ i) (hi : i < n) (hv : cs[i.toNat]? = some v) : (Instr.index t (.agg cs) (.int k i)).run P w = .ok v w := by
  obtain ⟨j, hj⟩ := Option.isSome_iff_exists.1 hs
  simp [Instr.index, run_underlying h, asIntOf, h0, hi, go_sem, run_underlying he, run_sizeOf _ hj, isAgg, h1, hv]

end Go.Proofs.Ytidjebepgpbcnaa
