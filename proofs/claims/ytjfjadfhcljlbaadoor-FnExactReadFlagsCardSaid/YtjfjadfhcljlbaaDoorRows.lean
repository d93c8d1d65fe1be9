/-
  NARROWER THAN 'FOR EVERY INPUT', by the rows' own cells (each row's printed sentence says how): FnFlags: laid · FnExactFlagsText: laid · FnExactReadFlags: laid.
  DERIVED. THE GIVEN ROWS OF THIS SEAT. 3 by the template 'for every input the law returns true; each argument reads behind the call as it read before'; 0 by the template 'total and deterministic' (their statements: YtjfjadfhcljlbaaDoorTotals.lean).
  GIVEN WITH THE SEED: the statements are not yours to turn. If you find one false, say at which input.
  Laid BY PROGRAM, IN A SANDBOX (cutbox-rows.mjs): the forced cells as the released guide's own fill.sh prints them over the translation 6255e8a31a35ef72… (all of the seat's roots in one cut). By AI agents, Wed Nov 11 2026. No macro, syntax, notation, axiom, sorry.
-/
import Derived.Test.YtjfjadfhcljlbaaDoorChecked
import GoSem.Claim
import GoSem.ClaimJoined
import GoSem.ClaimMapViews
import Derived.JoinedTies
import Derived.KernelRfl
namespace Go.Proofs.YtjfjadfhcljlbaaDoor
/- THE CELL 'sum', in the pinned program and in every row, IS THE sha256 OF THE DUMP (.gsa) THAT YtjfjadfhcljlbaaDoorProg.lean LOADS. Nothing in Lean hashes anything: it is a label: what it is worth is what the hold of that sum in a sandbox is worth. -/
noncomputable def Tryd.pinned : Pinned := { name := "ytjfjadfhcljlbaadoor", sum := "6255e8a31a35ef72d8b5fdb2a5d0ee12ea85320d1d599d1899652100bfedc7e5", checked := Tryd.checked }
namespace Rows
def none {H : Type} : Left H := { results := [], args := [] }

/- WHAT THE LISTED PACKAGE-LEVEL VARIABLES READ AS WHEN THE CALL BEGINS. Each datum BY PROGRAM (the guide's laid-datum.mjs) off the statement by which the dump's own 'gosem.cut.vars' lays the variable. In a bare row this is a premise. The card (YtjfjadfhcljlbaaDoorCards.lean) ties it to the program's text. -/
def laid_loop_example_g00501_impl_flagWords {H : Type} : DataW H := .agg [.lit (.string [115, 101, 101, 110]), .lit (.string [97, 110, 115, 119, 101, 114, 101, 100]), .lit (.string [102, 108, 97, 103, 103, 101, 100]), .lit (.string [100, 101, 108, 101, 116, 101, 100]), .lit (.string [100, 114, 97, 102, 116])]

/-- 'laws.FnFlags': WHATEVER THE INPUT: true; the input reads as it did. -/
def fnFlagsSpec : ChangeSpec := { name := "fnFlags", vars := ["loop.example/g00501/impl.flagWords"], fn := fun _ => fun
  | [d, g1] => { results := [.lit (.bool true)], args := [d], vars := [g1] }
  | _ => none }
def fnFlagsRow : OpenClaim := { program := "ytjfjadfhcljlbaadoor", sum := "6255e8a31a35ef72d8b5fdb2a5d0ee12ea85320d1d599d1899652100bfedc7e5", func := "loop.example/g00501/laws.FnFlags", spec := "fnFlags", inPlace := ["internal/abi.NoEscape", "internal/bytealg.MakeNoZero"], named := ["loop.example/g00501/impl.flagWords"], apart := false, laid := [("loop.example/g00501/impl.flagWords", laid_loop_example_g00501_impl_flagWords)] }
def FnFlagsSaid : Prop := fnFlagsRow.holds Tryd.pinned (OpenSpec.ofChange fnFlagsSpec)

/-- ITS FALSE NEIGHBOUR: 'it returns false'. Refute it at one input. -/
def fnFlagsWrong : ChangeSpec := { name := "fnFlags", vars := ["loop.example/g00501/impl.flagWords"], fn := fun _ => fun
  | [d, g1] => { results := [.lit (.bool false)], args := [d], vars := [g1] }
  | _ => none }
def FnFlagsWrongFalsely : Prop := fnFlagsRow.holds Tryd.pinned (OpenSpec.ofChange fnFlagsWrong)

/-- 'laws.FnExactFlagsText': WHATEVER THE INPUT: true; the input reads as it did. -/
def fnExactFlagsTextSpec : ChangeSpec := { name := "fnExactFlagsText", vars := ["loop.example/g00501/impl.flagWords"], fn := fun _ => fun
  | [d, g1] => { results := [.lit (.bool true)], args := [d], vars := [g1] }
  | _ => none }
def fnExactFlagsTextRow : OpenClaim := { program := "ytjfjadfhcljlbaadoor", sum := "6255e8a31a35ef72d8b5fdb2a5d0ee12ea85320d1d599d1899652100bfedc7e5", func := "loop.example/g00501/laws.FnExactFlagsText", spec := "fnExactFlagsText", inPlace := ["internal/abi.NoEscape", "internal/bytealg.MakeNoZero"], named := ["loop.example/g00501/impl.flagWords"], apart := false, laid := [("loop.example/g00501/impl.flagWords", laid_loop_example_g00501_impl_flagWords)] }
def FnExactFlagsTextSaid : Prop := fnExactFlagsTextRow.holds Tryd.pinned (OpenSpec.ofChange fnExactFlagsTextSpec)

/-- ITS FALSE NEIGHBOUR: 'it returns false'. Refute it at one input. -/
def fnExactFlagsTextWrong : ChangeSpec := { name := "fnExactFlagsText", vars := ["loop.example/g00501/impl.flagWords"], fn := fun _ => fun
  | [d, g1] => { results := [.lit (.bool false)], args := [d], vars := [g1] }
  | _ => none }
def FnExactFlagsTextWrongFalsely : Prop := fnExactFlagsTextRow.holds Tryd.pinned (OpenSpec.ofChange fnExactFlagsTextWrong)

/-- 'laws.FnExactReadFlags': WHATEVER THE INPUT: true; the input reads as it did. -/
def fnExactReadFlagsSpec : ChangeSpec := { name := "fnExactReadFlags", vars := ["loop.example/g00501/impl.flagWords"], fn := fun _ => fun
  | [d, g1] => { results := [.lit (.bool true)], args := [d], vars := [g1] }
  | _ => none }
def fnExactReadFlagsRow : OpenClaim := { program := "ytjfjadfhcljlbaadoor", sum := "6255e8a31a35ef72d8b5fdb2a5d0ee12ea85320d1d599d1899652100bfedc7e5", func := "loop.example/g00501/laws.FnExactReadFlags", spec := "fnExactReadFlags", named := ["loop.example/g00501/impl.flagWords"], apart := false, laid := [("loop.example/g00501/impl.flagWords", laid_loop_example_g00501_impl_flagWords)] }
def FnExactReadFlagsSaid : Prop := fnExactReadFlagsRow.holds Tryd.pinned (OpenSpec.ofChange fnExactReadFlagsSpec)

/-- ITS FALSE NEIGHBOUR: 'it returns false'. Refute it at one input. -/
def fnExactReadFlagsWrong : ChangeSpec := { name := "fnExactReadFlags", vars := ["loop.example/g00501/impl.flagWords"], fn := fun _ => fun
  | [d, g1] => { results := [.lit (.bool false)], args := [d], vars := [g1] }
  | _ => none }
def FnExactReadFlagsWrongFalsely : Prop := fnExactReadFlagsRow.holds Tryd.pinned (OpenSpec.ofChange fnExactReadFlagsWrong)

/- THE SECOND FORM. 'bulk': how many values and letters a reading holds, each counted each time it is reached (what is shared counts as often as it is met; a slice's spare places count too). A statement '..UptoSaid' is the law's where the arguments, and the package variables that the reading takes, are together of bulk at most 1048576: NARROWER than '..Said'. Prove '..Said' where nothing that the law and all that it calls make is longer than what came in: it says more and counts as full. Else prove '..UptoSaid'. A law counts once. -/
mutual
def uptoBulk {H : Type} : DataW H → Nat
  | .lit (.string bytes) => bytes.length + 1
  | .lit _ => 1
  | .nil => 1
  | .ptr d => uptoBulk d + 1
  | .slice elems spare => uptoBulkAll elems + uptoBulkAll spare + 1
  | .agg parts => uptoBulkAll parts + 1
  | .iface _ d => uptoBulk d + 1
  | .map entries => uptoBulkEntries entries + 1
  | .held _ => 1
def uptoBulkAll {H : Type} : List (DataW H) → Nat
  | [] => 0
  | d :: r => uptoBulk d + uptoBulkAll r
def uptoBulkEntries {H : Type} : List (Lit × DataW H) → Nat
  | [] => 0
  | x :: r => uptoBulkEntry x + uptoBulkEntries r
def uptoBulkEntry {H : Type} : Lit × DataW H → Nat
  | (.string bytes, d) => bytes.length + uptoBulk d + 1
  | (_, d) => uptoBulk d + 1
 end
def uptoSmall : (H : Type) → List (DataW H) → Bool := fun _ ds => decide (uptoBulkAll ds ≤ 1048576)
def OpenSpec.upto (s : _root_.Go.ChangeSpec) : _root_.Go.OpenSpec := { _root_.Go.OpenSpec.ofChange s with cond := some uptoSmall }

/-- 'laws.FnFlags', WHERE WHAT IT READS IS OF BULK AT MOST 1048576: true; the input reads as it did. -/
def fnFlagsUptoRow : OpenClaim := { program := "ytjfjadfhcljlbaadoor", sum := "6255e8a31a35ef72d8b5fdb2a5d0ee12ea85320d1d599d1899652100bfedc7e5", func := "loop.example/g00501/laws.FnFlags", spec := "fnFlags", inPlace := ["internal/abi.NoEscape", "internal/bytealg.MakeNoZero"], named := ["loop.example/g00501/impl.flagWords"], apart := false, laid := [("loop.example/g00501/impl.flagWords", laid_loop_example_g00501_impl_flagWords)], narrowed := true }
def FnFlagsUptoSaid : Prop := fnFlagsUptoRow.holds Tryd.pinned (OpenSpec.upto fnFlagsSpec)

/-- 'laws.FnExactFlagsText', WHERE WHAT IT READS IS OF BULK AT MOST 1048576: true; the input reads as it did. -/
def fnExactFlagsTextUptoRow : OpenClaim := { program := "ytjfjadfhcljlbaadoor", sum := "6255e8a31a35ef72d8b5fdb2a5d0ee12ea85320d1d599d1899652100bfedc7e5", func := "loop.example/g00501/laws.FnExactFlagsText", spec := "fnExactFlagsText", inPlace := ["internal/abi.NoEscape", "internal/bytealg.MakeNoZero"], named := ["loop.example/g00501/impl.flagWords"], apart := false, laid := [("loop.example/g00501/impl.flagWords", laid_loop_example_g00501_impl_flagWords)], narrowed := true }
def FnExactFlagsTextUptoSaid : Prop := fnExactFlagsTextUptoRow.holds Tryd.pinned (OpenSpec.upto fnExactFlagsTextSpec)

/-- 'laws.FnExactReadFlags', WHERE WHAT IT READS IS OF BULK AT MOST 1048576: true; the input reads as it did. -/
def fnExactReadFlagsUptoRow : OpenClaim := { program := "ytjfjadfhcljlbaadoor", sum := "6255e8a31a35ef72d8b5fdb2a5d0ee12ea85320d1d599d1899652100bfedc7e5", func := "loop.example/g00501/laws.FnExactReadFlags", spec := "fnExactReadFlags", named := ["loop.example/g00501/impl.flagWords"], apart := false, laid := [("loop.example/g00501/impl.flagWords", laid_loop_example_g00501_impl_flagWords)], narrowed := true }
def FnExactReadFlagsUptoSaid : Prop := fnExactReadFlagsUptoRow.holds Tryd.pinned (OpenSpec.upto fnExactReadFlagsSpec)

end Rows
end Go.Proofs.YtjfjadfhcljlbaaDoor
