/-
  NARROWER THAN 'FOR EVERY INPUT', by the rows' own cells (each row's printed sentence says how): FnFilter: laid · FnExactFilterTokens: laid · FnExactReadFilter: laid.
  DERIVED. THE GIVEN ROWS OF THIS SEAT. 3 by the template 'for every input the law returns true; each argument reads behind the call as it read before'; 0 by the template 'total and deterministic' (their statements: YthihjelcakenpaaDoorTotals.lean).
  GIVEN WITH THE SEED: the statements are not yours to turn. If you find one false, say at which input.
  Laid BY PROGRAM, IN A SANDBOX (cutbox-rows.mjs): the forced cells as the released guide's own fill.sh prints them over the translation c342fe78d9505985… (all of the seat's roots in one cut). By AI agents, Wed Nov 11 2026. No macro, syntax, notation, axiom, sorry.
-/
import Derived.Test.YthihjelcakenpaaDoorChecked
import GoSem.Claim
import GoSem.ClaimJoined
import GoSem.ClaimMapViews
import Derived.JoinedTies
import Derived.KernelRfl
namespace Go.Proofs.YthihjelcakenpaaDoor
/- THE CELL 'sum', in the pinned program and in every row, IS THE sha256 OF THE DUMP (.gsa) THAT YthihjelcakenpaaDoorProg.lean LOADS. Nothing in Lean hashes anything: it is a label: what it is worth is what the hold of that sum in a sandbox is worth. -/
noncomputable def Tryd.pinned : Pinned := { name := "ythihjelcakenpaadoor", sum := "c342fe78d950598591cdd7b931c394fa13a027739754b841690295d454939a5a", checked := Tryd.checked }
namespace Rows
def none {H : Type} : Left H := { results := [], args := [] }

/- WHAT THE LISTED PACKAGE-LEVEL VARIABLES READ AS WHEN THE CALL BEGINS. Each datum BY PROGRAM (the guide's laid-datum.mjs) off the statement by which the dump's own 'gosem.cut.vars' lays the variable. In a bare row this is a premise. The card (YthihjelcakenpaaDoorCards.lean) ties it to the program's text. -/
def laid_loop_example_g00501_impl_eventWords {H : Type} : DataW H := .agg [.lit (.string [110, 101, 119]), .lit (.string [103, 111, 110, 101]), .lit (.string [102, 108, 97, 103, 115]), .lit (.string [110, 97, 109, 101, 115])]

/-- 'laws.FnFilter': WHATEVER THE INPUT: true; the input reads as it did. -/
def fnFilterSpec : ChangeSpec := { name := "fnFilter", vars := ["loop.example/g00501/impl.eventWords"], fn := fun _ => fun
  | [d, g1] => { results := [.lit (.bool true)], args := [d], vars := [g1] }
  | _ => none }
def fnFilterRow : OpenClaim := { program := "ythihjelcakenpaadoor", sum := "c342fe78d950598591cdd7b931c394fa13a027739754b841690295d454939a5a", func := "loop.example/g00501/laws.FnFilter", spec := "fnFilter", unfollowed := true, recurses := true, named := ["loop.example/g00501/impl.eventWords"], apart := false, laid := [("loop.example/g00501/impl.eventWords", laid_loop_example_g00501_impl_eventWords)] }
def FnFilterSaid : Prop := fnFilterRow.holds Tryd.pinned (OpenSpec.ofChange fnFilterSpec)

/-- ITS FALSE NEIGHBOUR: 'it returns false'. Refute it at one input. -/
def fnFilterWrong : ChangeSpec := { name := "fnFilter", vars := ["loop.example/g00501/impl.eventWords"], fn := fun _ => fun
  | [d, g1] => { results := [.lit (.bool false)], args := [d], vars := [g1] }
  | _ => none }
def FnFilterWrongFalsely : Prop := fnFilterRow.holds Tryd.pinned (OpenSpec.ofChange fnFilterWrong)

/-- 'laws.FnExactFilterTokens': WHATEVER THE INPUT: true; the input reads as it did. -/
def fnExactFilterTokensSpec : ChangeSpec := { name := "fnExactFilterTokens", vars := ["loop.example/g00501/impl.eventWords"], fn := fun _ => fun
  | [d, g1] => { results := [.lit (.bool true)], args := [d], vars := [g1] }
  | _ => none }
def fnExactFilterTokensRow : OpenClaim := { program := "ythihjelcakenpaadoor", sum := "c342fe78d950598591cdd7b931c394fa13a027739754b841690295d454939a5a", func := "loop.example/g00501/laws.FnExactFilterTokens", spec := "fnExactFilterTokens", unfollowed := true, recurses := true, named := ["loop.example/g00501/impl.eventWords"], apart := false, laid := [("loop.example/g00501/impl.eventWords", laid_loop_example_g00501_impl_eventWords)] }
def FnExactFilterTokensSaid : Prop := fnExactFilterTokensRow.holds Tryd.pinned (OpenSpec.ofChange fnExactFilterTokensSpec)

/-- ITS FALSE NEIGHBOUR: 'it returns false'. Refute it at one input. -/
def fnExactFilterTokensWrong : ChangeSpec := { name := "fnExactFilterTokens", vars := ["loop.example/g00501/impl.eventWords"], fn := fun _ => fun
  | [d, g1] => { results := [.lit (.bool false)], args := [d], vars := [g1] }
  | _ => none }
def FnExactFilterTokensWrongFalsely : Prop := fnExactFilterTokensRow.holds Tryd.pinned (OpenSpec.ofChange fnExactFilterTokensWrong)

/-- 'laws.FnExactReadFilter': WHATEVER THE INPUT: true; the input reads as it did. -/
def fnExactReadFilterSpec : ChangeSpec := { name := "fnExactReadFilter", vars := ["loop.example/g00501/impl.eventWords"], fn := fun _ => fun
  | [d, g1] => { results := [.lit (.bool true)], args := [d], vars := [g1] }
  | _ => none }
def fnExactReadFilterRow : OpenClaim := { program := "ythihjelcakenpaadoor", sum := "c342fe78d950598591cdd7b931c394fa13a027739754b841690295d454939a5a", func := "loop.example/g00501/laws.FnExactReadFilter", spec := "fnExactReadFilter", unfollowed := true, recurses := true, named := ["loop.example/g00501/impl.eventWords"], apart := false, laid := [("loop.example/g00501/impl.eventWords", laid_loop_example_g00501_impl_eventWords)] }
def FnExactReadFilterSaid : Prop := fnExactReadFilterRow.holds Tryd.pinned (OpenSpec.ofChange fnExactReadFilterSpec)

/-- ITS FALSE NEIGHBOUR: 'it returns false'. Refute it at one input. -/
def fnExactReadFilterWrong : ChangeSpec := { name := "fnExactReadFilter", vars := ["loop.example/g00501/impl.eventWords"], fn := fun _ => fun
  | [d, g1] => { results := [.lit (.bool false)], args := [d], vars := [g1] }
  | _ => none }
def FnExactReadFilterWrongFalsely : Prop := fnExactReadFilterRow.holds Tryd.pinned (OpenSpec.ofChange fnExactReadFilterWrong)

/- THE SECOND FORM. 'bulk': how many values and letters a reading holds, each counted each time it is reached (what is shared counts as often as it is met; a slice's spare places count too). A statement '..UptoSaid' is the law's where the arguments, and the package variables that the reading takes, are together of bulk at most 1048576: NARROWER than '..Said'. Prove '..Said' where nothing that the law and all that it calls make is longer than what came in: it says more and counts as full. Else prove '..UptoSaid'. A law counts once. -/
mutual
def uptoBulk {H : Type} : DataW H → Nat
  | .lit (.string bytes) => bytes.length + 1
  | .lit _ => 1
  | .nil => 1
  | .ptr d => uptoBulk d + 1
  | .slice elems spare => uptoBulkAll elems + uptoBulkAll spare + 1
  | .agg parts => uptoBulkAll parts + 1
  | .iface _ d => uptoBulk d + 1
  | .map entries => uptoBulkEntries entries + 1
  | .held _ => 1
def uptoBulkAll {H : Type} : List (DataW H) → Nat
  | [] => 0
  | d :: r => uptoBulk d + uptoBulkAll r
def uptoBulkEntries {H : Type} : List (Lit × DataW H) → Nat
  | [] => 0
  | x :: r => uptoBulkEntry x + uptoBulkEntries r
def uptoBulkEntry {H : Type} : Lit × DataW H → Nat
  | (.string bytes, d) => bytes.length + uptoBulk d + 1
  | (_, d) => uptoBulk d + 1
 end
def uptoSmall : (H : Type) → List (DataW H) → Bool := fun _ ds => decide (uptoBulkAll ds ≤ 1048576)
def OpenSpec.upto (s : _root_.Go.ChangeSpec) : _root_.Go.OpenSpec := { _root_.Go.OpenSpec.ofChange s with cond := some uptoSmall }

/-- 'laws.FnFilter', WHERE WHAT IT READS IS OF BULK AT MOST 1048576: true; the input reads as it did. -/
def fnFilterUptoRow : OpenClaim := { program := "ythihjelcakenpaadoor", sum := "c342fe78d950598591cdd7b931c394fa13a027739754b841690295d454939a5a", func := "loop.example/g00501/laws.FnFilter", spec := "fnFilter", unfollowed := true, recurses := true, named := ["loop.example/g00501/impl.eventWords"], apart := false, laid := [("loop.example/g00501/impl.eventWords", laid_loop_example_g00501_impl_eventWords)], narrowed := true }
def FnFilterUptoSaid : Prop := fnFilterUptoRow.holds Tryd.pinned (OpenSpec.upto fnFilterSpec)

/-- 'laws.FnExactFilterTokens', WHERE WHAT IT READS IS OF BULK AT MOST 1048576: true; the input reads as it did. -/
def fnExactFilterTokensUptoRow : OpenClaim := { program := "ythihjelcakenpaadoor", sum := "c342fe78d950598591cdd7b931c394fa13a027739754b841690295d454939a5a", func := "loop.example/g00501/laws.FnExactFilterTokens", spec := "fnExactFilterTokens", unfollowed := true, recurses := true, named := ["loop.example/g00501/impl.eventWords"], apart := false, laid := [("loop.example/g00501/impl.eventWords", laid_loop_example_g00501_impl_eventWords)], narrowed := true }
def FnExactFilterTokensUptoSaid : Prop := fnExactFilterTokensUptoRow.holds Tryd.pinned (OpenSpec.upto fnExactFilterTokensSpec)

/-- 'laws.FnExactReadFilter', WHERE WHAT IT READS IS OF BULK AT MOST 1048576: true; the input reads as it did. -/
def fnExactReadFilterUptoRow : OpenClaim := { program := "ythihjelcakenpaadoor", sum := "c342fe78d950598591cdd7b931c394fa13a027739754b841690295d454939a5a", func := "loop.example/g00501/laws.FnExactReadFilter", spec := "fnExactReadFilter", unfollowed := true, recurses := true, named := ["loop.example/g00501/impl.eventWords"], apart := false, laid := [("loop.example/g00501/impl.eventWords", laid_loop_example_g00501_impl_eventWords)], narrowed := true }
def FnExactReadFilterUptoSaid : Prop := fnExactReadFilterUptoRow.holds Tryd.pinned (OpenSpec.upto fnExactReadFilterSpec)

end Rows
end Go.Proofs.YthihjelcakenpaaDoor
