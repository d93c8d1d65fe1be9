/-
  No cell of these rows narrows 'for every input' (looked for: loops, veiled, ifaces, maps, wideKeys, modest, calm, conditions, laid).
  DERIVED. THE GIVEN ROWS OF THIS SEAT. 9 by the template 'for every input the law returns true; each argument reads behind the call as it read before'; 0 by the template 'total and deterministic' (their statements: YtboinphhpfggnaaTotals.lean).
  GIVEN WITH THE SEED: the statements are not yours to turn. If you find one false, say at which input.
  Laid BY PROGRAM, IN A SANDBOX (cutbox-rows.mjs): the forced cells as the released guide's own fill.sh prints them over the translation 4b1ea88b67f6ec74… (all of the seat's roots in one cut). By AI agents, Wed Nov 11 2026. No macro, syntax, notation, axiom, sorry.
-/
import Derived.Test.YtboinphhpfggnaaChecked
import GoSem.Claim
import GoSem.ClaimJoined
import GoSem.ClaimMapViews
import Derived.JoinedTies
import Derived.KernelRfl
namespace Go.Proofs.Ytboinphhpfggnaa
/- THE CELL 'sum', in the pinned program and in every row, IS THE sha256 OF THE DUMP (.gsa) THAT YtboinphhpfggnaaProg.lean LOADS. Nothing in Lean hashes anything: it is a label: what it is worth is what the hold of that sum in a sandbox is worth. -/
noncomputable def Try.pinned : Pinned := { name := "ytboinphhpfggnaa", sum := "4b1ea88b67f6ec74bf599c7db0ba6932bf7f30effad407df77208e78f30e1070", checked := Try.checked }
namespace Rows
def none {H : Type} : Left H := { results := [], args := [] }

/-- 'laws.FnBoxes': WHATEVER THE INPUT: true; the input reads as it did. -/
def fnBoxesSpec : ChangeSpec := { name := "fnBoxes", fn := fun _ => fun
  | [d] => { results := [.lit (.bool true)], args := [d] }
  | _ => none }
def fnBoxesRow : OpenClaim := { program := "ytboinphhpfggnaa", sum := "4b1ea88b67f6ec74bf599c7db0ba6932bf7f30effad407df77208e78f30e1070", func := "loop.example/g00501/laws.FnBoxes", spec := "fnBoxes", unfollowed := true, recurses := true, apart := false }
def FnBoxesSaid : Prop := fnBoxesRow.holds Try.pinned (OpenSpec.ofChange fnBoxesSpec)

/-- ITS FALSE NEIGHBOUR: 'it returns false'. Refute it at one input. -/
def fnBoxesWrong : ChangeSpec := { name := "fnBoxes", fn := fun _ => fun
  | [d] => { results := [.lit (.bool false)], args := [d] }
  | _ => none }
def FnBoxesWrongFalsely : Prop := fnBoxesRow.holds Try.pinned (OpenSpec.ofChange fnBoxesWrong)

/-- 'laws.FnExactBoxOk': WHATEVER THE INPUT: true; the input reads as it did. -/
def fnExactBoxOkSpec : ChangeSpec := { name := "fnExactBoxOk", fn := fun _ => fun
  | [d] => { results := [.lit (.bool true)], args := [d] }
  | _ => none }
def fnExactBoxOkRow : OpenClaim := { program := "ytboinphhpfggnaa", sum := "4b1ea88b67f6ec74bf599c7db0ba6932bf7f30effad407df77208e78f30e1070", func := "loop.example/g00501/laws.FnExactBoxOk", spec := "fnExactBoxOk", apart := false }
def FnExactBoxOkSaid : Prop := fnExactBoxOkRow.holds Try.pinned (OpenSpec.ofChange fnExactBoxOkSpec)

/-- ITS FALSE NEIGHBOUR: 'it returns false'. Refute it at one input. -/
def fnExactBoxOkWrong : ChangeSpec := { name := "fnExactBoxOk", fn := fun _ => fun
  | [d] => { results := [.lit (.bool false)], args := [d] }
  | _ => none }
def FnExactBoxOkWrongFalsely : Prop := fnExactBoxOkRow.holds Try.pinned (OpenSpec.ofChange fnExactBoxOkWrong)

/-- 'laws.FnExactUidsOf': WHATEVER THE INPUT: true; the input reads as it did. -/
def fnExactUidsOfSpec : ChangeSpec := { name := "fnExactUidsOf", fn := fun _ => fun
  | [d] => { results := [.lit (.bool true)], args := [d] }
  | _ => none }
def fnExactUidsOfRow : OpenClaim := { program := "ytboinphhpfggnaa", sum := "4b1ea88b67f6ec74bf599c7db0ba6932bf7f30effad407df77208e78f30e1070", func := "loop.example/g00501/laws.FnExactUidsOf", spec := "fnExactUidsOf", apart := false }
def FnExactUidsOfSaid : Prop := fnExactUidsOfRow.holds Try.pinned (OpenSpec.ofChange fnExactUidsOfSpec)

/-- ITS FALSE NEIGHBOUR: 'it returns false'. Refute it at one input. -/
def fnExactUidsOfWrong : ChangeSpec := { name := "fnExactUidsOf", fn := fun _ => fun
  | [d] => { results := [.lit (.bool false)], args := [d] }
  | _ => none }
def FnExactUidsOfWrongFalsely : Prop := fnExactUidsOfRow.holds Try.pinned (OpenSpec.ofChange fnExactUidsOfWrong)

/-- 'laws.FnExactPlaceOf': WHATEVER THE INPUT: true; the input reads as it did. -/
def fnExactPlaceOfSpec : ChangeSpec := { name := "fnExactPlaceOf", fn := fun _ => fun
  | [d1, d2] => { results := [.lit (.bool true)], args := [d1, d2] }
  | _ => none }
def fnExactPlaceOfRow : OpenClaim := { program := "ytboinphhpfggnaa", sum := "4b1ea88b67f6ec74bf599c7db0ba6932bf7f30effad407df77208e78f30e1070", func := "loop.example/g00501/laws.FnExactPlaceOf", spec := "fnExactPlaceOf", unfollowed := true, recurses := true, apart := false }
def FnExactPlaceOfSaid : Prop := fnExactPlaceOfRow.holds Try.pinned (OpenSpec.ofChange fnExactPlaceOfSpec)

/-- ITS FALSE NEIGHBOUR: 'it returns false'. Refute it at one input. -/
def fnExactPlaceOfWrong : ChangeSpec := { name := "fnExactPlaceOf", fn := fun _ => fun
  | [d1, d2] => { results := [.lit (.bool false)], args := [d1, d2] }
  | _ => none }
def FnExactPlaceOfWrongFalsely : Prop := fnExactPlaceOfRow.holds Try.pinned (OpenSpec.ofChange fnExactPlaceOfWrong)

/-- 'laws.FnExactBoxesOk': WHATEVER THE INPUT: true; the input reads as it did. -/
def fnExactBoxesOkSpec : ChangeSpec := { name := "fnExactBoxesOk", fn := fun _ => fun
  | [d] => { results := [.lit (.bool true)], args := [d] }
  | _ => none }
def fnExactBoxesOkRow : OpenClaim := { program := "ytboinphhpfggnaa", sum := "4b1ea88b67f6ec74bf599c7db0ba6932bf7f30effad407df77208e78f30e1070", func := "loop.example/g00501/laws.FnExactBoxesOk", spec := "fnExactBoxesOk", unfollowed := true, recurses := true, apart := false }
def FnExactBoxesOkSaid : Prop := fnExactBoxesOkRow.holds Try.pinned (OpenSpec.ofChange fnExactBoxesOkSpec)

/-- ITS FALSE NEIGHBOUR: 'it returns false'. Refute it at one input. -/
def fnExactBoxesOkWrong : ChangeSpec := { name := "fnExactBoxesOk", fn := fun _ => fun
  | [d] => { results := [.lit (.bool false)], args := [d] }
  | _ => none }
def FnExactBoxesOkWrongFalsely : Prop := fnExactBoxesOkRow.holds Try.pinned (OpenSpec.ofChange fnExactBoxesOkWrong)

/-- 'laws.FnExactBoxNamed': WHATEVER THE INPUT: true; the input reads as it did. -/
def fnExactBoxNamedSpec : ChangeSpec := { name := "fnExactBoxNamed", fn := fun _ => fun
  | [d1, d2] => { results := [.lit (.bool true)], args := [d1, d2] }
  | _ => none }
def fnExactBoxNamedRow : OpenClaim := { program := "ytboinphhpfggnaa", sum := "4b1ea88b67f6ec74bf599c7db0ba6932bf7f30effad407df77208e78f30e1070", func := "loop.example/g00501/laws.FnExactBoxNamed", spec := "fnExactBoxNamed", unfollowed := true, recurses := true, apart := false }
def FnExactBoxNamedSaid : Prop := fnExactBoxNamedRow.holds Try.pinned (OpenSpec.ofChange fnExactBoxNamedSpec)

/-- ITS FALSE NEIGHBOUR: 'it returns false'. Refute it at one input. -/
def fnExactBoxNamedWrong : ChangeSpec := { name := "fnExactBoxNamed", fn := fun _ => fun
  | [d1, d2] => { results := [.lit (.bool false)], args := [d1, d2] }
  | _ => none }
def FnExactBoxNamedWrongFalsely : Prop := fnExactBoxNamedRow.holds Try.pinned (OpenSpec.ofChange fnExactBoxNamedWrong)

/-- 'laws.FnExactBoxWith': WHATEVER THE INPUT: true; the input reads as it did. -/
def fnExactBoxWithSpec : ChangeSpec := { name := "fnExactBoxWith", fn := fun _ => fun
  | [d1, d2] => { results := [.lit (.bool true)], args := [d1, d2] }
  | _ => none }
def fnExactBoxWithRow : OpenClaim := { program := "ytboinphhpfggnaa", sum := "4b1ea88b67f6ec74bf599c7db0ba6932bf7f30effad407df77208e78f30e1070", func := "loop.example/g00501/laws.FnExactBoxWith", spec := "fnExactBoxWith", unfollowed := true, recurses := true, apart := false }
def FnExactBoxWithSaid : Prop := fnExactBoxWithRow.holds Try.pinned (OpenSpec.ofChange fnExactBoxWithSpec)

/-- ITS FALSE NEIGHBOUR: 'it returns false'. Refute it at one input. -/
def fnExactBoxWithWrong : ChangeSpec := { name := "fnExactBoxWith", fn := fun _ => fun
  | [d1, d2] => { results := [.lit (.bool false)], args := [d1, d2] }
  | _ => none }
def FnExactBoxWithWrongFalsely : Prop := fnExactBoxWithRow.holds Try.pinned (OpenSpec.ofChange fnExactBoxWithWrong)

/-- 'laws.FnExactSameBox': WHATEVER THE INPUT: true; the input reads as it did. -/
def fnExactSameBoxSpec : ChangeSpec := { name := "fnExactSameBox", fn := fun _ => fun
  | [d1, d2] => { results := [.lit (.bool true)], args := [d1, d2] }
  | _ => none }
def fnExactSameBoxRow : OpenClaim := { program := "ytboinphhpfggnaa", sum := "4b1ea88b67f6ec74bf599c7db0ba6932bf7f30effad407df77208e78f30e1070", func := "loop.example/g00501/laws.FnExactSameBox", spec := "fnExactSameBox", apart := false }
def FnExactSameBoxSaid : Prop := fnExactSameBoxRow.holds Try.pinned (OpenSpec.ofChange fnExactSameBoxSpec)

/-- ITS FALSE NEIGHBOUR: 'it returns false'. Refute it at one input. -/
def fnExactSameBoxWrong : ChangeSpec := { name := "fnExactSameBox", fn := fun _ => fun
  | [d1, d2] => { results := [.lit (.bool false)], args := [d1, d2] }
  | _ => none }
def FnExactSameBoxWrongFalsely : Prop := fnExactSameBoxRow.holds Try.pinned (OpenSpec.ofChange fnExactSameBoxWrong)

/-- 'laws.FnExactSameBoxes': WHATEVER THE INPUT: true; the input reads as it did. -/
def fnExactSameBoxesSpec : ChangeSpec := { name := "fnExactSameBoxes", fn := fun _ => fun
  | [d1, d2] => { results := [.lit (.bool true)], args := [d1, d2] }
  | _ => none }
def fnExactSameBoxesRow : OpenClaim := { program := "ytboinphhpfggnaa", sum := "4b1ea88b67f6ec74bf599c7db0ba6932bf7f30effad407df77208e78f30e1070", func := "loop.example/g00501/laws.FnExactSameBoxes", spec := "fnExactSameBoxes", unfollowed := true, recurses := true, apart := false }
def FnExactSameBoxesSaid : Prop := fnExactSameBoxesRow.holds Try.pinned (OpenSpec.ofChange fnExactSameBoxesSpec)

/-- ITS FALSE NEIGHBOUR: 'it returns false'. Refute it at one input. -/
def fnExactSameBoxesWrong : ChangeSpec := { name := "fnExactSameBoxes", fn := fun _ => fun
  | [d1, d2] => { results := [.lit (.bool false)], args := [d1, d2] }
  | _ => none }
def FnExactSameBoxesWrongFalsely : Prop := fnExactSameBoxesRow.holds Try.pinned (OpenSpec.ofChange fnExactSameBoxesWrong)

/- THE SECOND FORM. 'bulk': how many values and letters a reading holds, each counted each time it is reached (what is shared counts as often as it is met; a slice's spare places count too). A statement '..UptoSaid' is the law's where the arguments, and the package variables that the reading takes, are together of bulk at most 1048576: NARROWER than '..Said'. Prove '..Said' where nothing that the law and all that it calls make is longer than what came in: it says more and counts as full. Else prove '..UptoSaid'. A law counts once. -/
mutual
def uptoBulk {H : Type} : DataW H → Nat
  | .lit (.string bytes) => bytes.length + 1
  | .lit _ => 1
  | .nil => 1
  | .ptr d => uptoBulk d + 1
  | .slice elems spare => uptoBulkAll elems + uptoBulkAll spare + 1
  | .agg parts => uptoBulkAll parts + 1
  | .iface _ d => uptoBulk d + 1
  | .map entries => uptoBulkEntries entries + 1
  | .held _ => 1
def uptoBulkAll {H : Type} : List (DataW H) → Nat
  | [] => 0
  | d :: r => uptoBulk d + uptoBulkAll r
def uptoBulkEntries {H : Type} : List (Lit × DataW H) → Nat
  | [] => 0
  | x :: r => uptoBulkEntry x + uptoBulkEntries r
def uptoBulkEntry {H : Type} : Lit × DataW H → Nat
  | (.string bytes, d) => bytes.length + uptoBulk d + 1
  | (_, d) => uptoBulk d + 1
 end
def uptoSmall : (H : Type) → List (DataW H) → Bool := fun _ ds => decide (uptoBulkAll ds ≤ 1048576)
def OpenSpec.upto (s : _root_.Go.ChangeSpec) : _root_.Go.OpenSpec := { _root_.Go.OpenSpec.ofChange s with cond := some uptoSmall }

/-- 'laws.FnBoxes', WHERE WHAT IT READS IS OF BULK AT MOST 1048576: true; the input reads as it did. -/
def fnBoxesUptoRow : OpenClaim := { program := "ytboinphhpfggnaa", sum := "4b1ea88b67f6ec74bf599c7db0ba6932bf7f30effad407df77208e78f30e1070", func := "loop.example/g00501/laws.FnBoxes", spec := "fnBoxes", unfollowed := true, recurses := true, apart := false, narrowed := true }
def FnBoxesUptoSaid : Prop := fnBoxesUptoRow.holds Try.pinned (OpenSpec.upto fnBoxesSpec)

/-- 'laws.FnExactBoxOk', WHERE WHAT IT READS IS OF BULK AT MOST 1048576: true; the input reads as it did. -/
def fnExactBoxOkUptoRow : OpenClaim := { program := "ytboinphhpfggnaa", sum := "4b1ea88b67f6ec74bf599c7db0ba6932bf7f30effad407df77208e78f30e1070", func := "loop.example/g00501/laws.FnExactBoxOk", spec := "fnExactBoxOk", apart := false, narrowed := true }
def FnExactBoxOkUptoSaid : Prop := fnExactBoxOkUptoRow.holds Try.pinned (OpenSpec.upto fnExactBoxOkSpec)

/-- 'laws.FnExactUidsOf', WHERE WHAT IT READS IS OF BULK AT MOST 1048576: true; the input reads as it did. -/
def fnExactUidsOfUptoRow : OpenClaim := { program := "ytboinphhpfggnaa", sum := "4b1ea88b67f6ec74bf599c7db0ba6932bf7f30effad407df77208e78f30e1070", func := "loop.example/g00501/laws.FnExactUidsOf", spec := "fnExactUidsOf", apart := false, narrowed := true }
def FnExactUidsOfUptoSaid : Prop := fnExactUidsOfUptoRow.holds Try.pinned (OpenSpec.upto fnExactUidsOfSpec)

/-- 'laws.FnExactPlaceOf', WHERE WHAT IT READS IS OF BULK AT MOST 1048576: true; the input reads as it did. -/
def fnExactPlaceOfUptoRow : OpenClaim := { program := "ytboinphhpfggnaa", sum := "4b1ea88b67f6ec74bf599c7db0ba6932bf7f30effad407df77208e78f30e1070", func := "loop.example/g00501/laws.FnExactPlaceOf", spec := "fnExactPlaceOf", unfollowed := true, recurses := true, apart := false, narrowed := true }
def FnExactPlaceOfUptoSaid : Prop := fnExactPlaceOfUptoRow.holds Try.pinned (OpenSpec.upto fnExactPlaceOfSpec)

/-- 'laws.FnExactBoxesOk', WHERE WHAT IT READS IS OF BULK AT MOST 1048576: true; the input reads as it did. -/
def fnExactBoxesOkUptoRow : OpenClaim := { program := "ytboinphhpfggnaa", sum := "4b1ea88b67f6ec74bf599c7db0ba6932bf7f30effad407df77208e78f30e1070", func := "loop.example/g00501/laws.FnExactBoxesOk", spec := "fnExactBoxesOk", unfollowed := true, recurses := true, apart := false, narrowed := true }
def FnExactBoxesOkUptoSaid : Prop := fnExactBoxesOkUptoRow.holds Try.pinned (OpenSpec.upto fnExactBoxesOkSpec)

/-- 'laws.FnExactBoxNamed', WHERE WHAT IT READS IS OF BULK AT MOST 1048576: true; the input reads as it did. -/
def fnExactBoxNamedUptoRow : OpenClaim := { program := "ytboinphhpfggnaa", sum := "4b1ea88b67f6ec74bf599c7db0ba6932bf7f30effad407df77208e78f30e1070", func := "loop.example/g00501/laws.FnExactBoxNamed", spec := "fnExactBoxNamed", unfollowed := true, recurses := true, apart := false, narrowed := true }
def FnExactBoxNamedUptoSaid : Prop := fnExactBoxNamedUptoRow.holds Try.pinned (OpenSpec.upto fnExactBoxNamedSpec)

/-- 'laws.FnExactBoxWith', WHERE WHAT IT READS IS OF BULK AT MOST 1048576: true; the input reads as it did. -/
def fnExactBoxWithUptoRow : OpenClaim := { program := "ytboinphhpfggnaa", sum := "4b1ea88b67f6ec74bf599c7db0ba6932bf7f30effad407df77208e78f30e1070", func := "loop.example/g00501/laws.FnExactBoxWith", spec := "fnExactBoxWith", unfollowed := true, recurses := true, apart := false, narrowed := true }
def FnExactBoxWithUptoSaid : Prop := fnExactBoxWithUptoRow.holds Try.pinned (OpenSpec.upto fnExactBoxWithSpec)

/-- 'laws.FnExactSameBox', WHERE WHAT IT READS IS OF BULK AT MOST 1048576: true; the input reads as it did. -/
def fnExactSameBoxUptoRow : OpenClaim := { program := "ytboinphhpfggnaa", sum := "4b1ea88b67f6ec74bf599c7db0ba6932bf7f30effad407df77208e78f30e1070", func := "loop.example/g00501/laws.FnExactSameBox", spec := "fnExactSameBox", apart := false, narrowed := true }
def FnExactSameBoxUptoSaid : Prop := fnExactSameBoxUptoRow.holds Try.pinned (OpenSpec.upto fnExactSameBoxSpec)

/-- 'laws.FnExactSameBoxes', WHERE WHAT IT READS IS OF BULK AT MOST 1048576: true; the input reads as it did. -/
def fnExactSameBoxesUptoRow : OpenClaim := { program := "ytboinphhpfggnaa", sum := "4b1ea88b67f6ec74bf599c7db0ba6932bf7f30effad407df77208e78f30e1070", func := "loop.example/g00501/laws.FnExactSameBoxes", spec := "fnExactSameBoxes", unfollowed := true, recurses := true, apart := false, narrowed := true }
def FnExactSameBoxesUptoSaid : Prop := fnExactSameBoxesUptoRow.holds Try.pinned (OpenSpec.upto fnExactSameBoxesSpec)

end Rows
end Go.Proofs.Ytboinphhpfggnaa
